/- What the law needs of the texts that it rests on. -/
import Derived.Test.YtpedjcagaeedjaaShFnProfits1
section
namespace Go.Proofs.Ytpedjcagaeedjaa.Ab
open Go Go.RowKit
set_option linter.unusedVariables false
set_option linter.unusedSimpArgs false
set_option maxRecDepth 10000
theorem Gr.atM {M M' : Mem} {v : Value} {l : List Int} {r : Nat} (h : Gr M v l r) (hs : l ≠ [] → M'[r]? = M[r]?) : Gr M' v l r := by
  rcases h with h | ⟨h1, h2, h3⟩
  · exact .inl h
  · exact .inr ⟨h1, h2, h3.at_ (hs h2)⟩
theorem Gr.oneM {M : Mem} {v : Value} {l : List Int} {r : Nat} (h : Gr M v l r) : v.oneCell' = true := by
  rcases h with ⟨rfl, _⟩ | ⟨rfl, _⟩ <;> rfl
abbrev mkC (p : Mk) (u : Value) : List Value := [u, .int .i64 p.price, .int .i64 p.make, .int .i64 p.left]
structure MB (M0 M : Mem) (cb id a bx r : Nat) (l : List Int) (p : Mk) (u : Value) : Prop where
  hid : id < M0.length
  hcb : cb < M0.length
  cw : Cw id M0 M
  cur : CurA M cb l id a
  box : OwnB M bx 26 (mkC p u)
  ge : M0.length ≤ bx
  gr : Gr M u p.w r
  rge : p.w ≠ [] → M0.length ≤ r ∧ r ≠ bx
section
variable {M0 M M2 : Mem} {cb id a a2 bx r : Nat} {l : List Int} {p : Mk} {u : Value}
theorem MB.draw (h : MB M0 M cb id a bx r l p u) (w : Cw id M M2) (k : CurA M2 cb l id a2) : MB M0 M2 cb id a2 bx r l p u :=
  ⟨h.hid, h.hcb, Cw.trans h.hid h.cw w, k, h.box.at_ (w.old bx (by have := h.hid; have := h.ge; omega) h.box.lt), h.ge, by
    rcases h.gr with g | ⟨g1, g2, g3⟩
    · exact .inl g
    · exact .inr ⟨g1, g2, w.own g3 (by have := h.hid; have := (h.rge g2).1; omega)⟩, h.rge⟩
theorem MB.ext (h : MB M0 M cb id a bx r l p u) {new : Mem} (hn : NoRo new) : MB M0 (M ++ new) cb id a bx r l p u :=
  ⟨h.hid, h.hcb, h.cw.ext hn, h.cur.ext new, h.box.ext new, h.ge, by
    rcases h.gr with g | ⟨g1, g2, g3⟩
    · exact .inl g
    · exact .inr ⟨g1, g2, g3.ext new⟩, h.rge⟩
theorem MB.rd (h : MB M0 M cb id a bx r l p u) (k : Nat) : rdc M bx k = (mkC p u)[k]? := h.box.rd k
theorem MB.st (h : MB M0 M cb id a bx r l p u) (j : Nat) (x : Int) (p' : Mk) (hj : j < 4) (hp : putL (mkC p u) j [.int .i64 x] = mkC p' u) (hw : p'.w = p.w) :
    stA M bx j [.int .i64 x] = some (M.set bx ⟨.own, 26, mkC p' u⟩) ∧ MB M0 (M.set bx ⟨.own, 26, mkC p' u⟩) cb id a bx r l p' u := by
  have hid := h.hid
  have hcb := h.hcb
  have hge := h.ge
  refine ⟨by rw [h.box.st (by simp; omega) rfl, hp], hid, hcb, h.cw.put hge (by simp), h.cur.put (by omega) (by omega) _, h.box.set_self _ _, hge, ?_, by rw [hw]; exact h.rge⟩
  rw [hw]
  exact h.gr.atM fun e => List.getElem?_set_ne (Ne.symm (h.rge e).2)
theorem MB.app (h : MB M0 M cb id a bx r l p u) (hl : p.w.length ≤ 1000) (x : Int) : ∃ M1 M2,
    appP (M ++ [⟨.own, 3, [.int .i64 x]⟩]) 3 1 8 u (.slice (some ⟨M.length, 0, none⟩) 1 1) = some (.slice (some ⟨M.length + 1, 0, none⟩) (p.w.length + 1) 1, M1) ∧
    stA M1 bx 0 [.slice (some ⟨M.length + 1, 0, none⟩) (p.w.length + 1) 1] = some M2 ∧
    MB M0 M2 cb id a bx (M.length + 1) l { p with w := p.w ++ [x] } (.slice (some ⟨M.length + 1, 0, none⟩) (p.w.length + 1) 1) := by
  have hid := h.hid
  have hcb := h.hcb
  have hge := h.ge
  have hbl := h.box.lt
  obtain ⟨M1, h1, h2, h3, h4, h5⟩ := h.gr.app hl x
  have same : ∀ i, i < M.length → (i < M0.length ∨ i = bx) → M1[i]? = M[i]? := fun i hi ho => h4 i hi fun e => by have := h.rge e; omega
  have b1 : OwnB M1 bx 26 (mkC p u) := h.box.at_ (same bx hbl (.inr rfl))
  have cw1 : Cw id M0 M1 := ⟨by have := h.cw.len; omega, fun i e hi => (same i (by have := h.cw.len; omega) (.inl hi)).trans (h.cw.old i e hi), fun i b hi hb => by
    by_cases e : i < M.length
    · by_cases e2 : i = r ∧ p.w ≠ []
      · exact h5 i b (.inl e2) hb
      · rw [h4 i e fun e3 e4 => e2 ⟨e4, e3⟩] at hb
        exact h.cw.new i b hi hb
    · exact h5 i b (.inr (by omega)) hb⟩
  have k1 : CurA M1 cb l id a := by
    obtain ⟨s, hb⟩ := h.cur.box
    exact ⟨(same cb (by have := h.cw.len; omega) (.inl hcb)).trans h.cur.code, h.cur.byte, h.cur.few, s, (same id (by have := h.cw.len; omega) (.inl hid)).trans hb⟩
  refine ⟨M1, _, h1, b1.st (by simp) rfl, hid, hcb, cw1.put hge (by simp), k1.put (by omega) (by omega) _, b1.set_self _ _, hge, .inr ⟨by simp, by simp, ?_⟩, fun _ => ⟨by have := h.cw.len; omega, by omega⟩⟩
  exact h3.at_ (List.getElem?_set_ne (by omega))
theorem MB.put (h : MB M0 M cb id a bx r l p u) (hl : p.w.length ≤ 1000) (h0 : 0 < p.w.length) (x : Int) : ∃ M2,
    iadA 1 u (.int .i64 0) = some (.pointer (some ⟨r, 0, none⟩)) ∧ stA M r 0 [.int .i64 x] = some M2 ∧ MB M0 M2 cb id a bx r l { p with w := p.w.set 0 x } u := by
  have hid := h.hid
  have hcb := h.hcb
  have hge := h.ge
  have hne : p.w ≠ [] := fun e => by rw [e] at h0; simp at h0
  obtain ⟨g1, g2⟩ := h.rge hne
  rcases h.gr with ⟨-, g⟩ | ⟨rfl, -, ho⟩
  · exact absurd g hne
  have i0 := (ho.ints (by omega) 1).at_ 0 h0
  refine ⟨M.set r (rowB (p.w.set 0 x)), by simpa [pAt] using i0, ho.st h0, hid, hcb, h.cw.put g1 (by simp), h.cur.put (by omega) (by omega) _, h.box.set_ne g2 _, hge, .inr ⟨by simp, ?_, ho.set_self⟩, fun _ => ⟨g1, g2⟩⟩
  · intro e
    have := congrArg List.length e
    simp at this
    exact hne this
end
def LivesMk (lo : Nat) (M : Mem) (v : Value) (s : Mk) : Prop := ∀ M3 : Mem, (∀ i, lo ≤ i → i < M.length → M3[i]? = M[i]?) → MkA M3 v s
theorem LivesMk.here {lo : Nat} {M : Mem} {v : Value} {s : Mk} (h : LivesMk lo M v s) : MkA M v s := h M fun _ _ _ => rfl
theorem LivesMk.cw {lo id : Nat} {M M' : Mem} {v : Value} {s : Mk} (h : LivesMk lo M v s) (hid : id < lo) (c : Cw id M M') : LivesMk lo M' v s := fun M3 h3 =>
  h M3 fun i h1 h2 => (h3 i h1 (Nat.lt_of_lt_of_le h2 c.len)).trans (c.old i (by omega) h2)
theorem LivesMk.up {lo : Nat} {M M' : Mem} {v : Value} {s : Mk} (h : LivesMk lo M v s) (hl : M.length ≤ M'.length) (he : ∀ i, lo ≤ i → i < M.length → M'[i]? = M[i]?) : LivesMk lo M' v s := fun M3 h3 =>
  h M3 fun i h1 h2 => (h3 i h1 (by omega)).trans (he i h1 h2)
theorem MB.fin {M N : Mem} {cb id a bx r : Nat} {l : List Int} {s : Mk} {u : Value} (h : MB (M ++ [⟨.own, 26, [.slice none 0 0, .int .i64 0, .int .i64 0, .int .i64 0]⟩]) N cb id a bx r l s u) (hid : id < M.length) (hcb : cb < M.length) (l1 : s.w.length ≤ 1000) : ∃ N2,
    stA N M.length 0 [u, .int .i64 s.price, .int .i64 s.make, .int .i64 s.left] = some N2 ∧ (∀ k, rdc N2 M.length k = (mkC s u)[k]?) ∧ LivesMk M.length N2 (mkV s u) s ∧ Cw id M N2 ∧ CurA N2 cb l id a := by
  have hge := h.ge
  have hcl := h.cw.len
  have hlen : (M ++ [(⟨.own, 26, [.slice none 0 0, .int .i64 0, .int .i64 0, .int .i64 0]⟩ : Blk)]).length = M.length + 1 := by simp
  rw [hlen] at hge hcl
  have c : OwnB N M.length 26 [.slice none 0 0, .int .i64 0, .int .i64 0, .int .i64 0] := (h.cw.old M.length (by omega) (by simp)).trans (by simp)
  have o4 : onesB [u, .int .i64 s.price, .int .i64 s.make, .int .i64 s.left] = true := by
    simp [onesB, h.gr.oneM]
    exact ⟨rfl, rfl, rfl⟩
  have w0 : Cw id M N := h.cw.pre (noRo_own noRo_nil) hid
  refine ⟨_, c.st (by simp) o4, fun k => (c.set_self _ _).rd k, fun M3 h3 => ⟨u, rfl, ?_⟩, w0.put (Nat.le_refl _) (by simp), h.cur.put (by omega) (by omega) _⟩
  refine Gr.ints (r := r) (h.gr.atM fun e => ?_) l1
  have g := (h.rge e).1
  rw [hlen] at g
  have hl : r < N.length := by
    rcases h.gr with ⟨-, e2⟩ | ⟨-, -, ho⟩
    · exact absurd e2 e
    · exact ho.lt
  rw [h3 r (by omega) (by simpa using hl), List.getElem?_set_ne (by omega)]
theorem bld_mk (a b c : Int) : bldA [.slice none 0 0, .int .i64 0, .int .i64 0, .int .i64 0] [(1, 1, .int .i64 a), (2, 1, .int .i64 b), (3, 1, .int .i64 c)] = some (.agg #[.slice none 0 0, .int .i64 a, .int .i64 b, .int .i64 c]) := rfl
theorem bl_1w (m : Mem) (x : Int) : bslA m 3 1 1 [.int .i64 0] [(0, 1, .int .i64 x)] = some (.slice (some ⟨m.length, 0, none⟩) 1 1, m ++ [⟨.own, 3, [.int .i64 x]⟩]) := rfl
theorem l1MostM_rc (m : Mem) (a b : Int) : RC Try.prog 82 [.int .i64 a, .int .i64 b] m fun r new => r = .int .i64 (max a b) ∧ new = [] := by
  refine rc_of_run mixed ok_spec_l1Most (by simp) (go_start _ _ _ ?_)
  by_cases h : b < a
  · simp (config := {implicitDefEqProofs := false, maxDischargeDepth := 20}) (disch := first | omega | (simp only [lenE]; done) | (simp only [lenE]; omega) | rfl | (simp only [lenE, markR_len]; done) | (simp only [lenE, markR_len]; omega)) only [runE, mapE, listE, initT_5, initT_6, initT_7, initT_8, resV, oneV, binA, unA, reduceCtorEq, Nat.reduceEqDiff, Nat.reduceAdd, Nat.reduceLT, Nat.reduceLeDiff, Nat.reduceMul, Nat.reduceSub, ↓reduceIte, decide_true, decide_false, Bool.true_eq_false, Bool.false_eq_true, Bool.not_true, Bool.not_false, if_true, if_false, and_true, true_and, memE, celE, w64, Nat.zero_add, Nat.add_zero, Nat.mul_one, putL, and_self, ldn, c_spec_l1Most, r_spec_l1Most, h, gt_iff_lt]
    exact newQ_nil ⟨by congr 1; omega, rfl⟩
  · simp (config := {implicitDefEqProofs := false, maxDischargeDepth := 20}) (disch := first | omega | (simp only [lenE]; done) | (simp only [lenE]; omega) | rfl | (simp only [lenE, markR_len]; done) | (simp only [lenE, markR_len]; omega)) only [runE, mapE, listE, initT_5, initT_6, initT_7, initT_8, resV, oneV, binA, unA, reduceCtorEq, Nat.reduceEqDiff, Nat.reduceAdd, Nat.reduceLT, Nat.reduceLeDiff, Nat.reduceMul, Nat.reduceSub, ↓reduceIte, decide_true, decide_false, Bool.true_eq_false, Bool.false_eq_true, Bool.not_true, Bool.not_false, if_true, if_false, and_true, true_and, memE, celE, w64, Nat.zero_add, Nat.add_zero, Nat.mul_one, putL, and_self, ldn, c_spec_l1Most, r_spec_l1Most, h, gt_iff_lt]
    exact newQ_nil ⟨by congr 1; omega, rfl⟩

theorem bl_mP (m : Mem) : bslA m 3 1 7 [.int .i64 0, .int .i64 0, .int .i64 0, .int .i64 0, .int .i64 0, .int .i64 0, .int .i64 0] [(0, 1, .int .i64 10), (1, 1, .int .i64 12), (2, 1, .int .i64 20), (3, 1, .int .i64 6), (4, 1, .int .i64 30), (5, 1, .int .i64 99), (6, 1, .int .i64 1)] = some (.slice (some ⟨m.length, 0, none⟩) 7 1, m ++ [rowB [10, 12, 20, 6, 30, 99, 1]]) := rfl
theorem bl_mW (m : Mem) : bslA m 3 1 6 [.int .i64 0, .int .i64 0, .int .i64 0, .int .i64 0, .int .i64 0, .int .i64 0] [(0, 1, .int .i64 1), (1, 1, .int .i64 2), (2, 1, .int .i64 1), (3, 1, .int .i64 0), (4, 1, .int .i64 3), (5, 1, .int .i64 4)] = some (.slice (some ⟨m.length, 0, none⟩) 6 1, m ++ [rowB [1, 2, 1, 0, 3, 4]]) := rfl
theorem bl_m0 (m : Mem) : bslA m 3 1 3 [.int .i64 0, .int .i64 0, .int .i64 0] [(0, 1, .int .i64 0), (1, 1, .int .i64 99), (2, 1, .int .i64 100)] = some (.slice (some ⟨m.length, 0, none⟩) 3 1, m ++ [rowB [0, 99, 100]]) := rfl
theorem bl_m3 (m : Mem) : bslA m 3 1 2 [.int .i64 0, .int .i64 0] [(0, 1, .int .i64 (-1)), (1, 1, .int .i64 5)] = some (.slice (some ⟨m.length, 0, none⟩) 2 1, m ++ [rowB [-1, 5]]) := rfl
theorem bl_cS (m : Mem) : bslA m 3 1 5 [.int .i64 0, .int .i64 0, .int .i64 0, .int .i64 0, .int .i64 0] [(0, 1, .int .i64 100), (1, 1, .int .i64 100), (2, 1, .int .i64 80), (3, 1, .int .i64 50), (4, 1, .int .i64 0)] = some (.slice (some ⟨m.length, 0, none⟩) 5 1, m ++ [rowB [100, 100, 80, 50, 0]]) := rfl
theorem bl_cA (m : Mem) : bslA m 3 1 3 [.int .i64 0, .int .i64 0, .int .i64 0] [(0, 1, .int .i64 (-1)), (1, 1, .int .i64 99), (2, 1, .int .i64 100)] = some (.slice (some ⟨m.length, 0, none⟩) 3 1, m ++ [rowB [-1, 99, 100]]) := rfl
theorem bl_cB (m : Mem) : bslA m 3 1 2 [.int .i64 0, .int .i64 0] [(0, 1, .int .i64 (-1)), (1, 1, .int .i64 101)] = some (.slice (some ⟨m.length, 0, none⟩) 2 1, m ++ [rowB [-1, 101]]) := rfl
theorem bl_sO (m : Mem) : bslA m 3 1 11 [.int .i64 0, .int .i64 0, .int .i64 0, .int .i64 0, .int .i64 0, .int .i64 0, .int .i64 0, .int .i64 0, .int .i64 0, .int .i64 0, .int .i64 0] [(0, 1, .int .i64 0), (1, 1, .int .i64 1), (2, 1, .int .i64 2), (3, 1, .int .i64 3), (4, 1, .int .i64 4), (5, 1, .int .i64 5), (6, 1, .int .i64 8), (7, 1, .int .i64 9), (8, 1, .int .i64 (-1)), (9, 1, .int .i64 6), (10, 1, .int .i64 7)] = some (.slice (some ⟨m.length, 0, none⟩) 11 1, m ++ [rowB [0, 1, 2, 3, 4, 5, 8, 9, -1, 6, 7]]) := rfl
theorem bl_m1 (m : Mem) (x y : Int) : bslA m 3 1 3 [.int .i64 0, .int .i64 0, .int .i64 0] [(0, 1, .int .i64 (-1)), (1, 1, .int .i64 x), (2, 1, .int .i64 y)] = some (.slice (some ⟨m.length, 0, none⟩) 3 1, m ++ [rowB [-1, x, y]]) := rfl
theorem market_ac (M : Mem) (cb id a : Nat) (l : List Int) (h : CurA M cb l id a) (ha : a ≤ 999999000) :
    AC Try.prog 44 [.pointer (some ⟨id, 0, none⟩)] M fun v M' => ∃ (p : Mk) (u : Value) (a' : Nat), v = mkV p u ∧ a' ≤ a + 100 ∧ Cw id M M' ∧ CurA M' cb l id a' ∧ LivesMk M.length M' (mkV p u) p ∧ p.w.length ≤ 100 ∧ p.price ≤ 100 := by
  refine ac_of_run mixed ok_spec_l1Cur__market (by simp) (go_start _ _ _ ?_)
  have hid := h.lt
  have hcb := h.cblt
  simp (config := {implicitDefEqProofs := false, maxDischargeDepth := 20}) (disch := first | omega | (simp only [lenE]; done) | (simp only [lenE]; omega) | rfl | (simp only [lenE, markR_len]; done) | (simp only [lenE, markR_len]; omega)) only [runE, mapE, listE, initT_5, initT_6, initT_7, initT_8, resV, oneV, binA, unA, reduceCtorEq, Nat.reduceEqDiff, Nat.reduceAdd, Nat.reduceLT, Nat.reduceLeDiff, Nat.reduceMul, Nat.reduceSub, ↓reduceIte, decide_true, decide_false, Bool.true_eq_false, Bool.false_eq_true, Bool.not_true, Bool.not_false, if_true, if_false, and_true, true_and, memE, celE, w64, Nat.zero_add, Nat.add_zero, Nat.mul_one, putL, and_self, ldn, c_spec_l1Cur__market, r_spec_l1Cur__market, bl_mP]
  obtain ⟨M0, hM0⟩ : ∃ M0 : Mem, M0 = M ++ [⟨.own, 26, [.slice none 0 0, .int .i64 0, .int .i64 0, .int .i64 0]⟩] := ⟨_, rfl⟩
  have h0 : CurA M0 cb l id a := by rw [hM0]; exact h.ext _
  have hl0 : M0.length = M.length + 1 := by rw [hM0]; simp
  have cw0 : Cw id M M0 := by rw [hM0]; exact (Cw.refl id M).ext (noRo_own noRo_nil)
  rw [← hM0]
  refine callH_ac (among_new M0 cb id a l [10, 12, 20, 6, 30, 99, 1] h0 (by omega) (by omega) rfl (by simp) (by simp)) ?_
  rintro v M1 ⟨xP, hxP, rfl, w1, a1, ha1, k1⟩
  have hP : 1 ≤ xP ∧ xP ≤ 99 := by simp at hxP; omega
  simp (config := {implicitDefEqProofs := false, maxDischargeDepth := 20}) (disch := first | omega | (simp only [lenE]; done) | (simp only [lenE]; omega) | rfl | (simp only [lenE, markR_len]; done) | (simp only [lenE, markR_len]; omega)) only [runE, mapE, listE, initT_5, initT_6, initT_7, initT_8, resV, oneV, binA, unA, reduceCtorEq, Nat.reduceEqDiff, Nat.reduceAdd, Nat.reduceLT, Nat.reduceLeDiff, Nat.reduceMul, Nat.reduceSub, ↓reduceIte, decide_true, decide_false, Bool.true_eq_false, Bool.false_eq_true, Bool.not_true, Bool.not_false, if_true, if_false, and_true, true_and, memE, celE, w64, Nat.zero_add, Nat.add_zero, Nat.mul_one, putL, and_self, ldn]
  refine callH_ac (pick_ac M1 cb id a1 l 3 k1 (by omega) (by omega) (by omega)) ?_
  rintro v M2 ⟨xL, rfl, hL0, hL1, w2, a2, ha2, k2⟩
  have c2 := Cw.trans (by omega) w1 w2
  clear w1 w2 k1
  simp (config := {implicitDefEqProofs := false, maxDischargeDepth := 20}) (disch := first | omega | (simp only [lenE]; done) | (simp only [lenE]; omega) | rfl | (simp only [lenE, markR_len]; done) | (simp only [lenE, markR_len]; omega)) only [runE, mapE, listE, initT_5, initT_6, initT_7, initT_8, resV, oneV, binA, unA, reduceCtorEq, Nat.reduceEqDiff, Nat.reduceAdd, Nat.reduceLT, Nat.reduceLeDiff, Nat.reduceMul, Nat.reduceSub, ↓reduceIte, decide_true, decide_false, Bool.true_eq_false, Bool.false_eq_true, Bool.not_true, Bool.not_false, if_true, if_false, and_true, true_and, memE, celE, w64, Nat.zero_add, Nat.add_zero, Nat.mul_one, putL, and_self, ldn]
  refine callH_ac (pick_ac M2 cb id a2 l xP k2 (by omega) (by omega) (by omega)) ?_
  rintro v M5 ⟨xK, rfl, hK0, hK1, w5, a5, ha5, k5⟩
  have c5 := Cw.trans (by omega) c2 w5
  clear c2 w5 k2
  simp (config := {implicitDefEqProofs := false, maxDischargeDepth := 20}) (disch := first | omega | (simp only [lenE]; done) | (simp only [lenE]; omega) | rfl | (simp only [lenE, markR_len]; done) | (simp only [lenE, markR_len]; omega)) only [runE, mapE, listE, initT_5, initT_6, initT_7, initT_8, resV, oneV, binA, unA, reduceCtorEq, Nat.reduceEqDiff, Nat.reduceAdd, Nat.reduceLT, Nat.reduceLeDiff, Nat.reduceMul, Nat.reduceSub, ↓reduceIte, decide_true, decide_false, Bool.true_eq_false, Bool.false_eq_true, Bool.not_true, Bool.not_false, if_true, if_false, and_true, true_and, memE, celE, w64, Nat.zero_add, Nat.add_zero, Nat.mul_one, putL, and_self, ldn]
  refine callH_rc (l1LeastM_rc _ _ _) ?_
  rintro v new ⟨rfl, rfl⟩
  simp (config := {implicitDefEqProofs := false, maxDischargeDepth := 20}) (disch := first | omega | (simp only [lenE]; done) | (simp only [lenE]; omega) | rfl | (simp only [lenE, markR_len]; done) | (simp only [lenE, markR_len]; omega)) only [runE, mapE, listE, initT_5, initT_6, initT_7, initT_8, resV, oneV, binA, unA, reduceCtorEq, Nat.reduceEqDiff, Nat.reduceAdd, Nat.reduceLT, Nat.reduceLeDiff, Nat.reduceMul, Nat.reduceSub, ↓reduceIte, decide_true, decide_false, Bool.true_eq_false, Bool.false_eq_true, Bool.not_true, Bool.not_false, if_true, if_false, and_true, true_and, memE, celE, w64, Nat.zero_add, Nat.add_zero, Nat.mul_one, putL, and_self, ldn]
  refine callH_rc (l1LeastM_rc _ _ _) ?_
  rintro v new ⟨rfl, rfl⟩
  obtain ⟨yM, hyM, hyM2⟩ : ∃ y : Int, min (xL + xK) xP = y ∧ -5 ≤ y ∧ y ≤ 200 := ⟨_, rfl, by omega⟩
  obtain ⟨yL, hyL, hyL2⟩ : ∃ y : Int, min xL xP = y ∧ -5 ≤ y ∧ y ≤ 200 := ⟨_, rfl, by omega⟩
  rw [hyM, hyL]
  have s1 : stA (M5 ++ [⟨.own, 26, [.slice none 0 0, .int .i64 0, .int .i64 0, .int .i64 0]⟩]) M5.length 0 [.slice none 0 0, .int .i64 xP, .int .i64 yM, .int .i64 yL] = some (M5 ++ [⟨.own, 26, mkC ⟨[], xP, yM, yL⟩ (.slice none 0 0)⟩]) := by
    rw [(OwnB.here rfl).st (by simp) rfl]
    simp [putL]
  have b5 : MB M0 (M5 ++ [⟨.own, 26, mkC ⟨[], xP, yM, yL⟩ (.slice none 0 0)⟩]) cb id a5 M5.length 0 l ⟨[], xP, yM, yL⟩ (.slice none 0 0) :=
    ⟨by omega, by omega, c5.ext (noRo_own noRo_nil), k5.ext _, OwnB.here rfl, c5.len, .inl ⟨rfl, rfl⟩, fun e => absurd rfl e⟩
  simp (config := {implicitDefEqProofs := false, maxDischargeDepth := 20}) (disch := first | omega | (simp only [lenE]; done) | (simp only [lenE]; omega) | rfl | (simp only [lenE, markR_len]; done) | (simp only [lenE, markR_len]; omega)) only [runE, mapE, listE, initT_5, initT_6, initT_7, initT_8, resV, oneV, binA, unA, reduceCtorEq, Nat.reduceEqDiff, Nat.reduceAdd, Nat.reduceLT, Nat.reduceLeDiff, Nat.reduceMul, Nat.reduceSub, ↓reduceIte, decide_true, decide_false, Bool.true_eq_false, Bool.false_eq_true, Bool.not_true, Bool.not_false, if_true, if_false, and_true, true_and, memE, celE, w64, Nat.zero_add, Nat.add_zero, Nat.mul_one, putL, and_self, ldn, bld_mk, stP_aggL, s1]
  generalize M5 ++ [(⟨.own, 26, mkC ⟨[], xP, yM, yL⟩ (.slice none 0 0)⟩ : Blk)] = N0 at *
  generalize M5.length = bx at *
  clear s1 c5 k5
  try simp (config := {implicitDefEqProofs := false, maxDischargeDepth := 20}) (disch := first | omega | (simp only [lenE]; done) | (simp only [lenE]; omega) | rfl | (simp only [lenE, markR_len]; done) | (simp only [lenE, markR_len]; omega)) only [runE, mapE, listE, initT_5, initT_6, initT_7, initT_8, resV, oneV, binA, unA, reduceCtorEq, Nat.reduceEqDiff, Nat.reduceAdd, Nat.reduceLT, Nat.reduceLeDiff, Nat.reduceMul, Nat.reduceSub, ↓reduceIte, decide_true, decide_false, Bool.true_eq_false, Bool.false_eq_true, Bool.not_true, Bool.not_false, if_true, if_false, and_true, true_and, memE, celE, w64, Nat.zero_add, Nat.add_zero, Nat.mul_one, putL, and_self, ldn, b5.rd]
  refine callH_rc (l1LeastM_rc _ _ _) ?_
  rintro v new ⟨rfl, rfl⟩
  obtain ⟨yR, hyR, hyR2⟩ : ∃ y : Int, min yL yM = y ∧ -5 ≤ y ∧ y ≤ 200 := ⟨_, rfl, by omega⟩
  rw [hyR, List.append_nil]
  obtain ⟨s2, b6⟩ := b5.st 3 yR ⟨[], xP, yM, yR⟩ (by omega) (by simp [putL]) rfl
  simp (config := {implicitDefEqProofs := false, maxDischargeDepth := 20}) (disch := first | omega | (simp only [lenE]; done) | (simp only [lenE]; omega) | rfl | (simp only [lenE, markR_len]; done) | (simp only [lenE, markR_len]; omega)) only [runE, mapE, listE, initT_5, initT_6, initT_7, initT_8, resV, oneV, binA, unA, reduceCtorEq, Nat.reduceEqDiff, Nat.reduceAdd, Nat.reduceLT, Nat.reduceLeDiff, Nat.reduceMul, Nat.reduceSub, ↓reduceIte, decide_true, decide_false, Bool.true_eq_false, Bool.false_eq_true, Bool.not_true, Bool.not_false, if_true, if_false, and_true, true_and, memE, celE, w64, Nat.zero_add, Nat.add_zero, Nat.mul_one, putL, and_self, ldn, s2]
  generalize N0.set bx ⟨.own, 26, mkC ⟨[], xP, yM, yR⟩ (.slice none 0 0)⟩ = N1 at *
  clear s2 b5
  refine callH_ac (pick_ac N1 cb id a5 l 9 b6.cur (by omega) (by omega) (by omega)) ?_
  rintro v N2 ⟨n0, rfl, hn0, hn1, w6, a6, ha6, k6⟩
  have b7 := b6.draw w6 k6
  clear b6 w6 k6
  simp (config := {implicitDefEqProofs := false, maxDischargeDepth := 20}) (disch := first | omega | (simp only [lenE]; done) | (simp only [lenE]; omega) | rfl | (simp only [lenE, markR_len]; done) | (simp only [lenE, markR_len]; omega)) only [runE, mapE, listE, initT_5, initT_6, initT_7, initT_8, resV, oneV, binA, unA, reduceCtorEq, Nat.reduceEqDiff, Nat.reduceAdd, Nat.reduceLT, Nat.reduceLeDiff, Nat.reduceMul, Nat.reduceSub, ↓reduceIte, decide_true, decide_false, Bool.true_eq_false, Bool.false_eq_true, Bool.not_true, Bool.not_false, if_true, if_false, and_true, true_and, memE, celE, w64, Nat.zero_add, Nat.add_zero, Nat.mul_one, putL, and_self, ldn]
  obtain ⟨N, hN, hN6⟩ : ∃ N : Nat, 1 + n0 = N ∧ N ≤ 9 := ⟨(1 + n0).toNat, by omega, by omega⟩
  rw [hN]
  refine loop_inv mixed (fun s => ∃ (M' : Mem) (r : Nat) (p : Mk) (u : Value) (a' k : Nat), s.m = M' ∧ MB M0 M' cb id a' bx r l p u ∧ p.w.length + k = N ∧ (∀ x ∈ p.w, 0 ≤ x ∧ x ≤ 4) ∧ (p.price ≤ 99 ∧ 1 ≤ p.price) ∧ (-5 ≤ p.make ∧ p.make ≤ 200) ∧ a' + 2 * k ≤ a6 + 18 ∧ s.t 0 = .pointer (some ⟨id, 0, none⟩) ∧ s.t 2 = .pointer (some ⟨M.length, 0, none⟩) ∧ s.t 5 = .pointer (some ⟨bx, 0, none⟩) ∧ s.t 6 = .int .i64 k) (fun s => (intOf (s.t 6)).toNat)
    ⟨N2, 0, _, _, a6, N, rfl, b7, by simp, by simp, ⟨hP.2, hP.1⟩, hyM2, by omega, rfl, rfl, rfl, rfl⟩ ?_
  rintro s ⟨M', r, p, u, a', k, tm, d, hk, hw, hpr, hmk, hak, t0, t2, t5, t6⟩
  by_cases hlt : 0 < k
  · have hlt' : (0 : Int) < k := by omega
    have dx := d.ext (new := [rowB [1, 2, 1, 0, 3, 4]]) (noRo_own noRo_nil)
    simp (config := {implicitDefEqProofs := false, maxDischargeDepth := 20}) (disch := first | omega | (simp only [lenE]; done) | (simp only [lenE]; omega) | rfl | (simp only [lenE, markR_len]; done) | (simp only [lenE, markR_len]; omega)) only [runE, mapE, listE, initT_5, initT_6, initT_7, initT_8, resV, oneV, binA, unA, reduceCtorEq, Nat.reduceEqDiff, Nat.reduceAdd, Nat.reduceLT, Nat.reduceLeDiff, Nat.reduceMul, Nat.reduceSub, ↓reduceIte, decide_true, decide_false, Bool.true_eq_false, Bool.false_eq_true, Bool.not_true, Bool.not_false, if_true, if_false, and_true, true_and, memE, celE, w64, Nat.zero_add, Nat.add_zero, Nat.mul_one, putL, and_self, ldn, tm, t0, t2, t5, t6, gt_iff_lt, hlt', bl_mW, d.rd, dx.rd]
    with_reducible refine ⟨?_, ?_, ?_⟩
    all_goals
      refine callH_ac (among_new M' cb id a' l [1, 2, 1, 0, 3, 4] d.cur (by omega) rfl rfl (by simp) (by simp)) ?_
      rintro v M2 ⟨x, hx, rfl, w2, a2, ha2, k2⟩
      have d2 := d.draw w2 k2
      obtain ⟨M3, M4, ap, sp, d4⟩ := d2.app (by omega) x
      simp (config := {implicitDefEqProofs := false, maxDischargeDepth := 20}) (disch := first | omega | (simp only [lenE]; done) | (simp only [lenE]; omega) | rfl | (simp only [lenE, markR_len]; done) | (simp only [lenE, markR_len]; omega)) only [runE, mapE, listE, initT_5, initT_6, initT_7, initT_8, resV, oneV, binA, unA, reduceCtorEq, Nat.reduceEqDiff, Nat.reduceAdd, Nat.reduceLT, Nat.reduceLeDiff, Nat.reduceMul, Nat.reduceSub, ↓reduceIte, decide_true, decide_false, Bool.true_eq_false, Bool.false_eq_true, Bool.not_true, Bool.not_false, if_true, if_false, and_true, true_and, memE, celE, w64, Nat.zero_add, Nat.add_zero, Nat.mul_one, putL, and_self, ldn, tm, t0, t2, t5, t6, d2.rd, bl_1w, ap, sp]
      refine ⟨⟨M4, _, _, _, a2, k - 1, rfl, d4, by simp; omega, fun y hy => ?_, hpr, hmk, by omega, by congr 1; omega⟩, by simp [intOf]; omega⟩
      rcases List.mem_append.1 hy with g | g
      · exact hw y g
      · rw [List.mem_singleton.1 g]
        simp at hx
        omega
  · have hlt' : ¬ ((0 : Int) < k) := by omega
    have e : k = 0 := by omega
    subst e
    have hwl : p.w.length ≤ 9 := by omega
    have hwp : 0 < p.w.length := by omega
    clear b7
    rw [hM0] at d
    simp (config := {implicitDefEqProofs := false, maxDischargeDepth := 20}) (disch := first | omega | (simp only [lenE]; done) | (simp only [lenE]; omega) | rfl | (simp only [lenE, markR_len]; done) | (simp only [lenE, markR_len]; omega)) only [runE, mapE, listE, initT_5, initT_6, initT_7, initT_8, resV, oneV, binA, unA, reduceCtorEq, Nat.reduceEqDiff, Nat.reduceAdd, Nat.reduceLT, Nat.reduceLeDiff, Nat.reduceMul, Nat.reduceSub, ↓reduceIte, decide_true, decide_false, Bool.true_eq_false, Bool.false_eq_true, Bool.not_true, Bool.not_false, if_true, if_false, and_true, true_and, memE, celE, w64, Nat.zero_add, Nat.add_zero, Nat.mul_one, putL, and_self, ldn, tm, t0, t2, t5, t6, gt_iff_lt, hlt', d.rd]
    refine callH_rc (l2Sum_rc _ u p.w (d.gr.ints (by omega)) (fun k hk => by have := sumTo_bound (m := 4) (by omega) hw k; omega)) ?_
    rintro v new ⟨rfl, rfl⟩
    generalize sumTo p.w p.w.length = sm
    cases hs : (sm == 0) with
    | false =>
      as_aux_lemma =>
      simp (config := {implicitDefEqProofs := false, maxDischargeDepth := 20}) (disch := first | omega | (simp only [lenE]; done) | (simp only [lenE]; omega) | rfl | (simp only [lenE, markR_len]; done) | (simp only [lenE, markR_len]; omega)) only [runE, mapE, listE, initT_5, initT_6, initT_7, initT_8, resV, oneV, binA, unA, reduceCtorEq, Nat.reduceEqDiff, Nat.reduceAdd, Nat.reduceLT, Nat.reduceLeDiff, Nat.reduceMul, Nat.reduceSub, ↓reduceIte, decide_true, decide_false, Bool.true_eq_false, Bool.false_eq_true, Bool.not_true, Bool.not_false, if_true, if_false, and_true, true_and, memE, celE, w64, Nat.zero_add, Nat.add_zero, Nat.mul_one, putL, and_self, ldn, tm, t0, t2, t5, t6, hs]
      refine callH_ac (pick_ac M' cb id a' l 40 d.cur (by omega) (by omega) (by omega)) ?_
      rintro v M2 ⟨x, rfl, hx0, hx1, w2, a2, ha2, k2⟩
      have d2 := d.draw w2 k2
      clear w2 k2 d
      by_cases x0 : x = 0
      · have x0' : (x == 0) = true := by simp [x0]
        simp (config := {implicitDefEqProofs := false, maxDischargeDepth := 20}) (disch := first | omega | (simp only [lenE]; done) | (simp only [lenE]; omega) | rfl | (simp only [lenE, markR_len]; done) | (simp only [lenE, markR_len]; omega)) only [runE, mapE, listE, initT_5, initT_6, initT_7, initT_8, resV, oneV, binA, unA, reduceCtorEq, Nat.reduceEqDiff, Nat.reduceAdd, Nat.reduceLT, Nat.reduceLeDiff, Nat.reduceMul, Nat.reduceSub, ↓reduceIte, decide_true, decide_false, Bool.true_eq_false, Bool.false_eq_true, Bool.not_true, Bool.not_false, if_true, if_false, and_true, true_and, memE, celE, w64, Nat.zero_add, Nat.add_zero, Nat.mul_one, putL, and_self, ldn, tm, t0, t2, t5, t6, x0', bl_m0]
        refine callH_ac (among_new M2 cb id a2 l [0, 99, 100] d2.cur (by omega) rfl rfl (by simp) (by simp)) ?_
        rintro v M3 ⟨y, hy, rfl, w3, a3, ha3, k3⟩
        have hy2 : y ≤ 100 := by simp at hy; omega
        have d3 := d2.draw w3 k3
        obtain ⟨s1, d4⟩ := d3.st 1 y { p with price := y } (by omega) (by simp [putL]) rfl
        simp (config := {implicitDefEqProofs := false, maxDischargeDepth := 20}) (disch := first | omega | (simp only [lenE]; done) | (simp only [lenE]; omega) | rfl | (simp only [lenE, markR_len]; done) | (simp only [lenE, markR_len]; omega)) only [runE, mapE, listE, initT_5, initT_6, initT_7, initT_8, resV, oneV, binA, unA, reduceCtorEq, Nat.reduceEqDiff, Nat.reduceAdd, Nat.reduceLT, Nat.reduceLeDiff, Nat.reduceMul, Nat.reduceSub, ↓reduceIte, decide_true, decide_false, Bool.true_eq_false, Bool.false_eq_true, Bool.not_true, Bool.not_false, if_true, if_false, and_true, true_and, memE, celE, w64, Nat.zero_add, Nat.add_zero, Nat.mul_one, putL, and_self, ldn, tm, t0, t2, t5, t6, s1]
        obtain ⟨N2, f1, f2, f3, f4, f5⟩ := MB.fin (s := { p with price := y }) d4 hid hcb (by first | omega | (simp; omega))
        simp (config := {implicitDefEqProofs := false, maxDischargeDepth := 20}) (disch := first | omega | (simp only [lenE]; done) | (simp only [lenE]; omega) | rfl | (simp only [lenE, markR_len]; done) | (simp only [lenE, markR_len]; omega)) only [runE, mapE, listE, initT_5, initT_6, initT_7, initT_8, resV, oneV, binA, unA, reduceCtorEq, Nat.reduceEqDiff, Nat.reduceAdd, Nat.reduceLT, Nat.reduceLeDiff, Nat.reduceMul, Nat.reduceSub, ↓reduceIte, decide_true, decide_false, Bool.true_eq_false, Bool.false_eq_true, Bool.not_true, Bool.not_false, if_true, if_false, and_true, true_and, memE, celE, w64, Nat.zero_add, Nat.add_zero, Nat.mul_one, putL, and_self, ldn, tm, t0, t2, t5, t6, d4.rd, f1, f2]
        exact ⟨{ p with price := y }, _, a3, rfl, by omega, f4, f5, f3, by first | omega | (simp; omega), by first | omega | (simp; omega)⟩
      · have x0' : (x == 0) = false := by simp [x0]
        by_cases x1 : x = 1
        · have x1' : (x == 1) = true := by simp [x1]
          simp (config := {implicitDefEqProofs := false, maxDischargeDepth := 20}) (disch := first | omega | (simp only [lenE]; done) | (simp only [lenE]; omega) | rfl | (simp only [lenE, markR_len]; done) | (simp only [lenE, markR_len]; omega)) only [runE, mapE, listE, initT_5, initT_6, initT_7, initT_8, resV, oneV, binA, unA, reduceCtorEq, Nat.reduceEqDiff, Nat.reduceAdd, Nat.reduceLT, Nat.reduceLeDiff, Nat.reduceMul, Nat.reduceSub, ↓reduceIte, decide_true, decide_false, Bool.true_eq_false, Bool.false_eq_true, Bool.not_true, Bool.not_false, if_true, if_false, and_true, true_and, memE, celE, w64, Nat.zero_add, Nat.add_zero, Nat.mul_one, putL, and_self, ldn, tm, t0, t2, t5, t6, x0', x1', d2.rd, bl_m1]
          refine callH_ac (among_new M2 cb id a2 l [-1, p.price, p.price + 1] d2.cur (by omega) rfl rfl (by simp) (by simp)) ?_
          rintro v M3 ⟨y, hy, rfl, w3, a3, ha3, k3⟩
          have d3 := d2.draw w3 k3
          obtain ⟨s1, d4⟩ := d3.st 2 y { p with make := y } (by omega) (by simp [putL]) rfl
          simp (config := {implicitDefEqProofs := false, maxDischargeDepth := 20}) (disch := first | omega | (simp only [lenE]; done) | (simp only [lenE]; omega) | rfl | (simp only [lenE, markR_len]; done) | (simp only [lenE, markR_len]; omega)) only [runE, mapE, listE, initT_5, initT_6, initT_7, initT_8, resV, oneV, binA, unA, reduceCtorEq, Nat.reduceEqDiff, Nat.reduceAdd, Nat.reduceLT, Nat.reduceLeDiff, Nat.reduceMul, Nat.reduceSub, ↓reduceIte, decide_true, decide_false, Bool.true_eq_false, Bool.false_eq_true, Bool.not_true, Bool.not_false, if_true, if_false, and_true, true_and, memE, celE, w64, Nat.zero_add, Nat.add_zero, Nat.mul_one, putL, and_self, ldn, tm, t0, t2, t5, t6, s1]
          obtain ⟨N2, f1, f2, f3, f4, f5⟩ := MB.fin (s := { p with make := y }) d4 hid hcb (by first | omega | (simp; omega))
          simp (config := {implicitDefEqProofs := false, maxDischargeDepth := 20}) (disch := first | omega | (simp only [lenE]; done) | (simp only [lenE]; omega) | rfl | (simp only [lenE, markR_len]; done) | (simp only [lenE, markR_len]; omega)) only [runE, mapE, listE, initT_5, initT_6, initT_7, initT_8, resV, oneV, binA, unA, reduceCtorEq, Nat.reduceEqDiff, Nat.reduceAdd, Nat.reduceLT, Nat.reduceLeDiff, Nat.reduceMul, Nat.reduceSub, ↓reduceIte, decide_true, decide_false, Bool.true_eq_false, Bool.false_eq_true, Bool.not_true, Bool.not_false, if_true, if_false, and_true, true_and, memE, celE, w64, Nat.zero_add, Nat.add_zero, Nat.mul_one, putL, and_self, ldn, tm, t0, t2, t5, t6, d4.rd, f1, f2]
          exact ⟨{ p with make := y }, _, a3, rfl, by omega, f4, f5, f3, by first | omega | (simp; omega), by first | omega | (simp; omega)⟩
        · have x1' : (x == 1) = false := by simp [x1]
          by_cases x2 : x = 2
          · have x2' : (x == 2) = true := by simp [x2]
            simp (config := {implicitDefEqProofs := false, maxDischargeDepth := 20}) (disch := first | omega | (simp only [lenE]; done) | (simp only [lenE]; omega) | rfl | (simp only [lenE, markR_len]; done) | (simp only [lenE, markR_len]; omega)) only [runE, mapE, listE, initT_5, initT_6, initT_7, initT_8, resV, oneV, binA, unA, reduceCtorEq, Nat.reduceEqDiff, Nat.reduceAdd, Nat.reduceLT, Nat.reduceLeDiff, Nat.reduceMul, Nat.reduceSub, ↓reduceIte, decide_true, decide_false, Bool.true_eq_false, Bool.false_eq_true, Bool.not_true, Bool.not_false, if_true, if_false, and_true, true_and, memE, celE, w64, Nat.zero_add, Nat.add_zero, Nat.mul_one, putL, and_self, ldn, tm, t0, t2, t5, t6, x0', x1', x2', d2.rd, bl_m1]
            refine callH_ac (among_new M2 cb id a2 l [-1, p.make, p.make + 1] d2.cur (by omega) rfl rfl (by simp) (by simp)) ?_
            rintro v M3 ⟨y, hy, rfl, w3, a3, ha3, k3⟩
            have d3 := d2.draw w3 k3
            obtain ⟨s1, d4⟩ := d3.st 3 y { p with left := y } (by omega) (by simp [putL]) rfl
            simp (config := {implicitDefEqProofs := false, maxDischargeDepth := 20}) (disch := first | omega | (simp only [lenE]; done) | (simp only [lenE]; omega) | rfl | (simp only [lenE, markR_len]; done) | (simp only [lenE, markR_len]; omega)) only [runE, mapE, listE, initT_5, initT_6, initT_7, initT_8, resV, oneV, binA, unA, reduceCtorEq, Nat.reduceEqDiff, Nat.reduceAdd, Nat.reduceLT, Nat.reduceLeDiff, Nat.reduceMul, Nat.reduceSub, ↓reduceIte, decide_true, decide_false, Bool.true_eq_false, Bool.false_eq_true, Bool.not_true, Bool.not_false, if_true, if_false, and_true, true_and, memE, celE, w64, Nat.zero_add, Nat.add_zero, Nat.mul_one, putL, and_self, ldn, tm, t0, t2, t5, t6, s1]
            obtain ⟨N2, f1, f2, f3, f4, f5⟩ := MB.fin (s := { p with left := y }) d4 hid hcb (by first | omega | (simp; omega))
            simp (config := {implicitDefEqProofs := false, maxDischargeDepth := 20}) (disch := first | omega | (simp only [lenE]; done) | (simp only [lenE]; omega) | rfl | (simp only [lenE, markR_len]; done) | (simp only [lenE, markR_len]; omega)) only [runE, mapE, listE, initT_5, initT_6, initT_7, initT_8, resV, oneV, binA, unA, reduceCtorEq, Nat.reduceEqDiff, Nat.reduceAdd, Nat.reduceLT, Nat.reduceLeDiff, Nat.reduceMul, Nat.reduceSub, ↓reduceIte, decide_true, decide_false, Bool.true_eq_false, Bool.false_eq_true, Bool.not_true, Bool.not_false, if_true, if_false, and_true, true_and, memE, celE, w64, Nat.zero_add, Nat.add_zero, Nat.mul_one, putL, and_self, ldn, tm, t0, t2, t5, t6, d4.rd, f1, f2]
            exact ⟨{ p with left := y }, _, a3, rfl, by omega, f4, f5, f3, by first | omega | (simp; omega), by first | omega | (simp; omega)⟩
          · have x2' : (x == 2) = false := by simp [x2]
            by_cases x3 : x = 3
            · have x3' : (x == 3) = true := by simp [x3]
              have dx := d2.ext (new := [rowB [-1, 5]]) (noRo_own noRo_nil)
              simp (config := {implicitDefEqProofs := false, maxDischargeDepth := 20}) (disch := first | omega | (simp only [lenE]; done) | (simp only [lenE]; omega) | rfl | (simp only [lenE, markR_len]; done) | (simp only [lenE, markR_len]; omega)) only [runE, mapE, listE, initT_5, initT_6, initT_7, initT_8, resV, oneV, binA, unA, reduceCtorEq, Nat.reduceEqDiff, Nat.reduceAdd, Nat.reduceLT, Nat.reduceLeDiff, Nat.reduceMul, Nat.reduceSub, ↓reduceIte, decide_true, decide_false, Bool.true_eq_false, Bool.false_eq_true, Bool.not_true, Bool.not_false, if_true, if_false, and_true, true_and, memE, celE, w64, Nat.zero_add, Nat.add_zero, Nat.mul_one, putL, and_self, ldn, tm, t0, t2, t5, t6, x0', x1', x2', x3', bl_m3, d2.rd, dx.rd]
              with_reducible refine ⟨?_, ?_, ?_⟩
              all_goals
                refine callH_ac (among_new M2 cb id a2 l [-1, 5] d2.cur (by omega) rfl rfl (by simp) (by simp)) ?_
                rintro v M3 ⟨y, -, rfl, w3, a3, ha3, k3⟩
                have d3 := d2.draw w3 k3
                obtain ⟨M4, i0, s1, d4⟩ := d3.put (by omega) hwp y
                simp (config := {implicitDefEqProofs := false, maxDischargeDepth := 20}) (disch := first | omega | (simp only [lenE]; done) | (simp only [lenE]; omega) | rfl | (simp only [lenE, markR_len]; done) | (simp only [lenE, markR_len]; omega)) only [runE, mapE, listE, initT_5, initT_6, initT_7, initT_8, resV, oneV, binA, unA, reduceCtorEq, Nat.reduceEqDiff, Nat.reduceAdd, Nat.reduceLT, Nat.reduceLeDiff, Nat.reduceMul, Nat.reduceSub, ↓reduceIte, decide_true, decide_false, Bool.true_eq_false, Bool.false_eq_true, Bool.not_true, Bool.not_false, if_true, if_false, and_true, true_and, memE, celE, w64, Nat.zero_add, Nat.add_zero, Nat.mul_one, putL, and_self, ldn, tm, t0, t2, t5, t6, d3.rd, i0, s1]
                obtain ⟨N2, f1, f2, f3, f4, f5⟩ := MB.fin (s := { p with w := p.w.set 0 y }) d4 hid hcb (by first | omega | (simp; omega))
                simp (config := {implicitDefEqProofs := false, maxDischargeDepth := 20}) (disch := first | omega | (simp only [lenE]; done) | (simp only [lenE]; omega) | rfl | (simp only [lenE, markR_len]; done) | (simp only [lenE, markR_len]; omega)) only [runE, mapE, listE, initT_5, initT_6, initT_7, initT_8, resV, oneV, binA, unA, reduceCtorEq, Nat.reduceEqDiff, Nat.reduceAdd, Nat.reduceLT, Nat.reduceLeDiff, Nat.reduceMul, Nat.reduceSub, ↓reduceIte, decide_true, decide_false, Bool.true_eq_false, Bool.false_eq_true, Bool.not_true, Bool.not_false, if_true, if_false, and_true, true_and, memE, celE, w64, Nat.zero_add, Nat.add_zero, Nat.mul_one, putL, and_self, ldn, tm, t0, t2, t5, t6, d4.rd, f1, f2]
                exact ⟨{ p with w := p.w.set 0 y }, _, a3, rfl, by omega, f4, f5, f3, by first | omega | (simp; omega), by first | omega | (simp; omega)⟩
            · have x3' : (x == 3) = false := by simp [x3]
              by_cases x4 : x = 4
              · have x4' : (x == 4) = true := by simp [x4]
                simp (config := {implicitDefEqProofs := false, maxDischargeDepth := 20}) (disch := first | omega | (simp only [lenE]; done) | (simp only [lenE]; omega) | rfl | (simp only [lenE, markR_len]; done) | (simp only [lenE, markR_len]; omega)) only [runE, mapE, listE, initT_5, initT_6, initT_7, initT_8, resV, oneV, binA, unA, reduceCtorEq, Nat.reduceEqDiff, Nat.reduceAdd, Nat.reduceLT, Nat.reduceLeDiff, Nat.reduceMul, Nat.reduceSub, ↓reduceIte, decide_true, decide_false, Bool.true_eq_false, Bool.false_eq_true, Bool.not_true, Bool.not_false, if_true, if_false, and_true, true_and, memE, celE, w64, Nat.zero_add, Nat.add_zero, Nat.mul_one, putL, and_self, ldn, tm, t0, t2, t5, t6, x0', x1', x2', x3', x4']
                refine loop_inv mixed (fun s => ∃ (M' : Mem) (r : Nat) (p9 : Mk) (u : Value), s.m = M' ∧ MB (M ++ [⟨.own, 26, [.slice none 0 0, .int .i64 0, .int .i64 0, .int .i64 0]⟩]) M' cb id a2 bx r l p9 u ∧ p9.w.length ≤ 20 ∧ p9.price = p.price ∧ s.t 0 = .pointer (some ⟨id, 0, none⟩) ∧ s.t 2 = .pointer (some ⟨M.length, 0, none⟩) ∧ s.t 5 = .pointer (some ⟨bx, 0, none⟩)) (fun s => 30 - ((rdc s.m bx 0).elim 0 lenOfA))
                  ⟨M2, _, p, _, rfl, d2, by omega, rfl, by simp only [put_t, put_t', put_m, putT_t, putT_t', putT_m, init_t, init_m, initT_0, initT_1, initT_2, initT_3, initT_4, initT_5, initT_6, initT_7, initT_8, Nat.reduceEqDiff, ↓reduceIte, t0], by simp only [put_t, put_t', put_m, putT_t, putT_t', putT_m, init_t, init_m, initT_0, initT_1, initT_2, initT_3, initT_4, initT_5, initT_6, initT_7, initT_8, Nat.reduceEqDiff, ↓reduceIte, t2], by simp only [put_t, put_t', put_m, putT_t, putT_t', putT_m, init_t, init_m, initT_0, initT_1, initT_2, initT_3, initT_4, initT_5, initT_6, initT_7, initT_8, Nat.reduceEqDiff, ↓reduceIte, t5]⟩ ?_
                clear d2
                rintro s ⟨M', r, p9, u, tm, d2, hl20, hpp, t0, t2, t5⟩
                have hgl := (d2.gr.ints (by omega)).len
                by_cases h10 : (p9.w.length : Int) < 10
                · obtain ⟨M3, M4, ap, sp, d4⟩ := d2.app (by omega) 1
                  simp (config := {implicitDefEqProofs := false, maxDischargeDepth := 20}) (disch := first | omega | (simp only [lenE]; done) | (simp only [lenE]; omega) | rfl | (simp only [lenE, markR_len]; done) | (simp only [lenE, markR_len]; omega)) only [runE, mapE, listE, initT_5, initT_6, initT_7, initT_8, resV, oneV, binA, unA, reduceCtorEq, Nat.reduceEqDiff, Nat.reduceAdd, Nat.reduceLT, Nat.reduceLeDiff, Nat.reduceMul, Nat.reduceSub, ↓reduceIte, decide_true, decide_false, Bool.true_eq_false, Bool.false_eq_true, Bool.not_true, Bool.not_false, if_true, if_false, and_true, true_and, memE, celE, w64, Nat.zero_add, Nat.add_zero, Nat.mul_one, putL, and_self, ldn, tm, t0, t2, t5, d2.rd, hgl, h10, bl_1w, ap, sp]
                  refine ⟨⟨M4, _, _, _, rfl, d4, by simp; omega, hpp⟩, ?_⟩
                  have e1 : lenOfA u = p9.w.length := by
                    rcases d2.gr with ⟨rfl, e⟩ | ⟨rfl, -, -⟩
                    · rw [e]; rfl
                    · rfl
                  rw [d4.rd]
                  show 30 - (p9.w.length + 1) < 30 - lenOfA u
                  rw [e1]; omega
                · simp (config := {implicitDefEqProofs := false, maxDischargeDepth := 20}) (disch := first | omega | (simp only [lenE]; done) | (simp only [lenE]; omega) | rfl | (simp only [lenE, markR_len]; done) | (simp only [lenE, markR_len]; omega)) only [runE, mapE, listE, initT_5, initT_6, initT_7, initT_8, resV, oneV, binA, unA, reduceCtorEq, Nat.reduceEqDiff, Nat.reduceAdd, Nat.reduceLT, Nat.reduceLeDiff, Nat.reduceMul, Nat.reduceSub, ↓reduceIte, decide_true, decide_false, Bool.true_eq_false, Bool.false_eq_true, Bool.not_true, Bool.not_false, if_true, if_false, and_true, true_and, memE, celE, w64, Nat.zero_add, Nat.add_zero, Nat.mul_one, putL, and_self, ldn, tm, t0, t2, t5, d2.rd, hgl, h10]
                  obtain ⟨N2, f1, f2, f3, f4, f5⟩ := MB.fin (s := p9) d2 hid hcb (by first | omega | (simp; omega))
                  simp (config := {implicitDefEqProofs := false, maxDischargeDepth := 20}) (disch := first | omega | (simp only [lenE]; done) | (simp only [lenE]; omega) | rfl | (simp only [lenE, markR_len]; done) | (simp only [lenE, markR_len]; omega)) only [runE, mapE, listE, initT_5, initT_6, initT_7, initT_8, resV, oneV, binA, unA, reduceCtorEq, Nat.reduceEqDiff, Nat.reduceAdd, Nat.reduceLT, Nat.reduceLeDiff, Nat.reduceMul, Nat.reduceSub, ↓reduceIte, decide_true, decide_false, Bool.true_eq_false, Bool.false_eq_true, Bool.not_true, Bool.not_false, if_true, if_false, and_true, true_and, memE, celE, w64, Nat.zero_add, Nat.add_zero, Nat.mul_one, putL, and_self, ldn, tm, t0, t2, t5, d2.rd, f1, f2]
                  exact ⟨p9, _, a2, rfl, by omega, f4, f5, f3, by first | omega | (simp; omega), by first | omega | (simp; omega)⟩
              · have x4' : (x == 4) = false := by simp [x4]
                simp (config := {implicitDefEqProofs := false, maxDischargeDepth := 20}) (disch := first | omega | (simp only [lenE]; done) | (simp only [lenE]; omega) | rfl | (simp only [lenE, markR_len]; done) | (simp only [lenE, markR_len]; omega)) only [runE, mapE, listE, initT_5, initT_6, initT_7, initT_8, resV, oneV, binA, unA, reduceCtorEq, Nat.reduceEqDiff, Nat.reduceAdd, Nat.reduceLT, Nat.reduceLeDiff, Nat.reduceMul, Nat.reduceSub, ↓reduceIte, decide_true, decide_false, Bool.true_eq_false, Bool.false_eq_true, Bool.not_true, Bool.not_false, if_true, if_false, and_true, true_and, memE, celE, w64, Nat.zero_add, Nat.add_zero, Nat.mul_one, putL, and_self, ldn, tm, t0, t2, t5, t6, x0', x1', x2', x3', x4']
                obtain ⟨N2, f1, f2, f3, f4, f5⟩ := MB.fin (s := p) d2 hid hcb (by first | omega | (simp; omega))
                simp (config := {implicitDefEqProofs := false, maxDischargeDepth := 20}) (disch := first | omega | (simp only [lenE]; done) | (simp only [lenE]; omega) | rfl | (simp only [lenE, markR_len]; done) | (simp only [lenE, markR_len]; omega)) only [runE, mapE, listE, initT_5, initT_6, initT_7, initT_8, resV, oneV, binA, unA, reduceCtorEq, Nat.reduceEqDiff, Nat.reduceAdd, Nat.reduceLT, Nat.reduceLeDiff, Nat.reduceMul, Nat.reduceSub, ↓reduceIte, decide_true, decide_false, Bool.true_eq_false, Bool.false_eq_true, Bool.not_true, Bool.not_false, if_true, if_false, and_true, true_and, memE, celE, w64, Nat.zero_add, Nat.add_zero, Nat.mul_one, putL, and_self, ldn, tm, t0, t2, t5, t6, d2.rd, f1, f2]
                exact ⟨p, _, a2, rfl, by omega, f4, f5, f3, by first | omega | (simp; omega), by first | omega | (simp; omega)⟩
    | true =>
      as_aux_lemma =>
      obtain ⟨Mq, i0, sp, dq⟩ := d.put (by omega) hwp 1
      simp (config := {implicitDefEqProofs := false, maxDischargeDepth := 20}) (disch := first | omega | (simp only [lenE]; done) | (simp only [lenE]; omega) | rfl | (simp only [lenE, markR_len]; done) | (simp only [lenE, markR_len]; omega)) only [runE, mapE, listE, initT_5, initT_6, initT_7, initT_8, resV, oneV, binA, unA, reduceCtorEq, Nat.reduceEqDiff, Nat.reduceAdd, Nat.reduceLT, Nat.reduceLeDiff, Nat.reduceMul, Nat.reduceSub, ↓reduceIte, decide_true, decide_false, Bool.true_eq_false, Bool.false_eq_true, Bool.not_true, Bool.not_false, if_true, if_false, and_true, true_and, memE, celE, w64, Nat.zero_add, Nat.add_zero, Nat.mul_one, putL, and_self, ldn, tm, t0, t2, t5, t6, hs, d.rd, i0, sp]
      clear d
      have d := dq
      clear dq sp i0
      generalize hpp : ({ p with w := p.w.set 0 1 } : Mk) = p' at d
      clear hw hs
      have hwl : p'.w.length ≤ 9 := by rw [← hpp]; simpa using hwl
      have hwp : 0 < p'.w.length := by rw [← hpp]; simpa using hwp
      have hpr : p'.price ≤ 99 ∧ 1 ≤ p'.price := by rw [← hpp]; exact hpr
      have hmk : -5 ≤ p'.make ∧ p'.make ≤ 200 := by rw [← hpp]; exact hmk
      clear hpp
      obtain ⟨M', hM'⟩ : ∃ M', M' = Mq := ⟨_, rfl⟩
      rw [← hM'] at d
      rw [← hM']
      refine callH_ac (pick_ac M' cb id a' l 40 d.cur (by omega) (by omega) (by omega)) ?_
      rintro v M2 ⟨x, rfl, hx0, hx1, w2, a2, ha2, k2⟩
      have d2 := d.draw w2 k2
      clear w2 k2 d
      by_cases x0 : x = 0
      · have x0' : (x == 0) = true := by simp [x0]
        simp (config := {implicitDefEqProofs := false, maxDischargeDepth := 20}) (disch := first | omega | (simp only [lenE]; done) | (simp only [lenE]; omega) | rfl | (simp only [lenE, markR_len]; done) | (simp only [lenE, markR_len]; omega)) only [runE, mapE, listE, initT_5, initT_6, initT_7, initT_8, resV, oneV, binA, unA, reduceCtorEq, Nat.reduceEqDiff, Nat.reduceAdd, Nat.reduceLT, Nat.reduceLeDiff, Nat.reduceMul, Nat.reduceSub, ↓reduceIte, decide_true, decide_false, Bool.true_eq_false, Bool.false_eq_true, Bool.not_true, Bool.not_false, if_true, if_false, and_true, true_and, memE, celE, w64, Nat.zero_add, Nat.add_zero, Nat.mul_one, putL, and_self, ldn, tm, t0, t2, t5, t6, x0', bl_m0]
        refine callH_ac (among_new M2 cb id a2 l [0, 99, 100] d2.cur (by omega) rfl rfl (by simp) (by simp)) ?_
        rintro v M3 ⟨y, hy, rfl, w3, a3, ha3, k3⟩
        have hy2 : y ≤ 100 := by simp at hy; omega
        have d3 := d2.draw w3 k3
        obtain ⟨s1, d4⟩ := d3.st 1 y { p' with price := y } (by omega) (by simp [putL]) rfl
        simp (config := {implicitDefEqProofs := false, maxDischargeDepth := 20}) (disch := first | omega | (simp only [lenE]; done) | (simp only [lenE]; omega) | rfl | (simp only [lenE, markR_len]; done) | (simp only [lenE, markR_len]; omega)) only [runE, mapE, listE, initT_5, initT_6, initT_7, initT_8, resV, oneV, binA, unA, reduceCtorEq, Nat.reduceEqDiff, Nat.reduceAdd, Nat.reduceLT, Nat.reduceLeDiff, Nat.reduceMul, Nat.reduceSub, ↓reduceIte, decide_true, decide_false, Bool.true_eq_false, Bool.false_eq_true, Bool.not_true, Bool.not_false, if_true, if_false, and_true, true_and, memE, celE, w64, Nat.zero_add, Nat.add_zero, Nat.mul_one, putL, and_self, ldn, tm, t0, t2, t5, t6, s1]
        obtain ⟨N2, f1, f2, f3, f4, f5⟩ := MB.fin (s := { p' with price := y }) d4 hid hcb (by first | omega | (simp; omega))
        simp (config := {implicitDefEqProofs := false, maxDischargeDepth := 20}) (disch := first | omega | (simp only [lenE]; done) | (simp only [lenE]; omega) | rfl | (simp only [lenE, markR_len]; done) | (simp only [lenE, markR_len]; omega)) only [runE, mapE, listE, initT_5, initT_6, initT_7, initT_8, resV, oneV, binA, unA, reduceCtorEq, Nat.reduceEqDiff, Nat.reduceAdd, Nat.reduceLT, Nat.reduceLeDiff, Nat.reduceMul, Nat.reduceSub, ↓reduceIte, decide_true, decide_false, Bool.true_eq_false, Bool.false_eq_true, Bool.not_true, Bool.not_false, if_true, if_false, and_true, true_and, memE, celE, w64, Nat.zero_add, Nat.add_zero, Nat.mul_one, putL, and_self, ldn, tm, t0, t2, t5, t6, d4.rd, f1, f2]
        exact ⟨{ p' with price := y }, _, a3, rfl, by omega, f4, f5, f3, by first | omega | (simp; omega), by first | omega | (simp; omega)⟩
      · have x0' : (x == 0) = false := by simp [x0]
        by_cases x1 : x = 1
        · have x1' : (x == 1) = true := by simp [x1]
          simp (config := {implicitDefEqProofs := false, maxDischargeDepth := 20}) (disch := first | omega | (simp only [lenE]; done) | (simp only [lenE]; omega) | rfl | (simp only [lenE, markR_len]; done) | (simp only [lenE, markR_len]; omega)) only [runE, mapE, listE, initT_5, initT_6, initT_7, initT_8, resV, oneV, binA, unA, reduceCtorEq, Nat.reduceEqDiff, Nat.reduceAdd, Nat.reduceLT, Nat.reduceLeDiff, Nat.reduceMul, Nat.reduceSub, ↓reduceIte, decide_true, decide_false, Bool.true_eq_false, Bool.false_eq_true, Bool.not_true, Bool.not_false, if_true, if_false, and_true, true_and, memE, celE, w64, Nat.zero_add, Nat.add_zero, Nat.mul_one, putL, and_self, ldn, tm, t0, t2, t5, t6, x0', x1', d2.rd, bl_m1]
          refine callH_ac (among_new M2 cb id a2 l [-1, p'.price, p'.price + 1] d2.cur (by omega) rfl rfl (by simp) (by simp)) ?_
          rintro v M3 ⟨y, hy, rfl, w3, a3, ha3, k3⟩
          have d3 := d2.draw w3 k3
          obtain ⟨s1, d4⟩ := d3.st 2 y { p' with make := y } (by omega) (by simp [putL]) rfl
          simp (config := {implicitDefEqProofs := false, maxDischargeDepth := 20}) (disch := first | omega | (simp only [lenE]; done) | (simp only [lenE]; omega) | rfl | (simp only [lenE, markR_len]; done) | (simp only [lenE, markR_len]; omega)) only [runE, mapE, listE, initT_5, initT_6, initT_7, initT_8, resV, oneV, binA, unA, reduceCtorEq, Nat.reduceEqDiff, Nat.reduceAdd, Nat.reduceLT, Nat.reduceLeDiff, Nat.reduceMul, Nat.reduceSub, ↓reduceIte, decide_true, decide_false, Bool.true_eq_false, Bool.false_eq_true, Bool.not_true, Bool.not_false, if_true, if_false, and_true, true_and, memE, celE, w64, Nat.zero_add, Nat.add_zero, Nat.mul_one, putL, and_self, ldn, tm, t0, t2, t5, t6, s1]
          obtain ⟨N2, f1, f2, f3, f4, f5⟩ := MB.fin (s := { p' with make := y }) d4 hid hcb (by first | omega | (simp; omega))
          simp (config := {implicitDefEqProofs := false, maxDischargeDepth := 20}) (disch := first | omega | (simp only [lenE]; done) | (simp only [lenE]; omega) | rfl | (simp only [lenE, markR_len]; done) | (simp only [lenE, markR_len]; omega)) only [runE, mapE, listE, initT_5, initT_6, initT_7, initT_8, resV, oneV, binA, unA, reduceCtorEq, Nat.reduceEqDiff, Nat.reduceAdd, Nat.reduceLT, Nat.reduceLeDiff, Nat.reduceMul, Nat.reduceSub, ↓reduceIte, decide_true, decide_false, Bool.true_eq_false, Bool.false_eq_true, Bool.not_true, Bool.not_false, if_true, if_false, and_true, true_and, memE, celE, w64, Nat.zero_add, Nat.add_zero, Nat.mul_one, putL, and_self, ldn, tm, t0, t2, t5, t6, d4.rd, f1, f2]
          exact ⟨{ p' with make := y }, _, a3, rfl, by omega, f4, f5, f3, by first | omega | (simp; omega), by first | omega | (simp; omega)⟩
        · have x1' : (x == 1) = false := by simp [x1]
          by_cases x2 : x = 2
          · have x2' : (x == 2) = true := by simp [x2]
            simp (config := {implicitDefEqProofs := false, maxDischargeDepth := 20}) (disch := first | omega | (simp only [lenE]; done) | (simp only [lenE]; omega) | rfl | (simp only [lenE, markR_len]; done) | (simp only [lenE, markR_len]; omega)) only [runE, mapE, listE, initT_5, initT_6, initT_7, initT_8, resV, oneV, binA, unA, reduceCtorEq, Nat.reduceEqDiff, Nat.reduceAdd, Nat.reduceLT, Nat.reduceLeDiff, Nat.reduceMul, Nat.reduceSub, ↓reduceIte, decide_true, decide_false, Bool.true_eq_false, Bool.false_eq_true, Bool.not_true, Bool.not_false, if_true, if_false, and_true, true_and, memE, celE, w64, Nat.zero_add, Nat.add_zero, Nat.mul_one, putL, and_self, ldn, tm, t0, t2, t5, t6, x0', x1', x2', d2.rd, bl_m1]
            refine callH_ac (among_new M2 cb id a2 l [-1, p'.make, p'.make + 1] d2.cur (by omega) rfl rfl (by simp) (by simp)) ?_
            rintro v M3 ⟨y, hy, rfl, w3, a3, ha3, k3⟩
            have d3 := d2.draw w3 k3
            obtain ⟨s1, d4⟩ := d3.st 3 y { p' with left := y } (by omega) (by simp [putL]) rfl
            simp (config := {implicitDefEqProofs := false, maxDischargeDepth := 20}) (disch := first | omega | (simp only [lenE]; done) | (simp only [lenE]; omega) | rfl | (simp only [lenE, markR_len]; done) | (simp only [lenE, markR_len]; omega)) only [runE, mapE, listE, initT_5, initT_6, initT_7, initT_8, resV, oneV, binA, unA, reduceCtorEq, Nat.reduceEqDiff, Nat.reduceAdd, Nat.reduceLT, Nat.reduceLeDiff, Nat.reduceMul, Nat.reduceSub, ↓reduceIte, decide_true, decide_false, Bool.true_eq_false, Bool.false_eq_true, Bool.not_true, Bool.not_false, if_true, if_false, and_true, true_and, memE, celE, w64, Nat.zero_add, Nat.add_zero, Nat.mul_one, putL, and_self, ldn, tm, t0, t2, t5, t6, s1]
            obtain ⟨N2, f1, f2, f3, f4, f5⟩ := MB.fin (s := { p' with left := y }) d4 hid hcb (by first | omega | (simp; omega))
            simp (config := {implicitDefEqProofs := false, maxDischargeDepth := 20}) (disch := first | omega | (simp only [lenE]; done) | (simp only [lenE]; omega) | rfl | (simp only [lenE, markR_len]; done) | (simp only [lenE, markR_len]; omega)) only [runE, mapE, listE, initT_5, initT_6, initT_7, initT_8, resV, oneV, binA, unA, reduceCtorEq, Nat.reduceEqDiff, Nat.reduceAdd, Nat.reduceLT, Nat.reduceLeDiff, Nat.reduceMul, Nat.reduceSub, ↓reduceIte, decide_true, decide_false, Bool.true_eq_false, Bool.false_eq_true, Bool.not_true, Bool.not_false, if_true, if_false, and_true, true_and, memE, celE, w64, Nat.zero_add, Nat.add_zero, Nat.mul_one, putL, and_self, ldn, tm, t0, t2, t5, t6, d4.rd, f1, f2]
            exact ⟨{ p' with left := y }, _, a3, rfl, by omega, f4, f5, f3, by first | omega | (simp; omega), by first | omega | (simp; omega)⟩
          · have x2' : (x == 2) = false := by simp [x2]
            by_cases x3 : x = 3
            · have x3' : (x == 3) = true := by simp [x3]
              have dx := d2.ext (new := [rowB [-1, 5]]) (noRo_own noRo_nil)
              simp (config := {implicitDefEqProofs := false, maxDischargeDepth := 20}) (disch := first | omega | (simp only [lenE]; done) | (simp only [lenE]; omega) | rfl | (simp only [lenE, markR_len]; done) | (simp only [lenE, markR_len]; omega)) only [runE, mapE, listE, initT_5, initT_6, initT_7, initT_8, resV, oneV, binA, unA, reduceCtorEq, Nat.reduceEqDiff, Nat.reduceAdd, Nat.reduceLT, Nat.reduceLeDiff, Nat.reduceMul, Nat.reduceSub, ↓reduceIte, decide_true, decide_false, Bool.true_eq_false, Bool.false_eq_true, Bool.not_true, Bool.not_false, if_true, if_false, and_true, true_and, memE, celE, w64, Nat.zero_add, Nat.add_zero, Nat.mul_one, putL, and_self, ldn, tm, t0, t2, t5, t6, x0', x1', x2', x3', bl_m3, d2.rd, dx.rd]
              with_reducible refine ⟨?_, ?_, ?_⟩
              all_goals
                refine callH_ac (among_new M2 cb id a2 l [-1, 5] d2.cur (by omega) rfl rfl (by simp) (by simp)) ?_
                rintro v M3 ⟨y, -, rfl, w3, a3, ha3, k3⟩
                have d3 := d2.draw w3 k3
                obtain ⟨M4, i0, s1, d4⟩ := d3.put (by omega) hwp y
                simp (config := {implicitDefEqProofs := false, maxDischargeDepth := 20}) (disch := first | omega | (simp only [lenE]; done) | (simp only [lenE]; omega) | rfl | (simp only [lenE, markR_len]; done) | (simp only [lenE, markR_len]; omega)) only [runE, mapE, listE, initT_5, initT_6, initT_7, initT_8, resV, oneV, binA, unA, reduceCtorEq, Nat.reduceEqDiff, Nat.reduceAdd, Nat.reduceLT, Nat.reduceLeDiff, Nat.reduceMul, Nat.reduceSub, ↓reduceIte, decide_true, decide_false, Bool.true_eq_false, Bool.false_eq_true, Bool.not_true, Bool.not_false, if_true, if_false, and_true, true_and, memE, celE, w64, Nat.zero_add, Nat.add_zero, Nat.mul_one, putL, and_self, ldn, tm, t0, t2, t5, t6, d3.rd, i0, s1]
                obtain ⟨N2, f1, f2, f3, f4, f5⟩ := MB.fin (s := { p' with w := p'.w.set 0 y }) d4 hid hcb (by first | omega | (simp; omega))
                simp (config := {implicitDefEqProofs := false, maxDischargeDepth := 20}) (disch := first | omega | (simp only [lenE]; done) | (simp only [lenE]; omega) | rfl | (simp only [lenE, markR_len]; done) | (simp only [lenE, markR_len]; omega)) only [runE, mapE, listE, initT_5, initT_6, initT_7, initT_8, resV, oneV, binA, unA, reduceCtorEq, Nat.reduceEqDiff, Nat.reduceAdd, Nat.reduceLT, Nat.reduceLeDiff, Nat.reduceMul, Nat.reduceSub, ↓reduceIte, decide_true, decide_false, Bool.true_eq_false, Bool.false_eq_true, Bool.not_true, Bool.not_false, if_true, if_false, and_true, true_and, memE, celE, w64, Nat.zero_add, Nat.add_zero, Nat.mul_one, putL, and_self, ldn, tm, t0, t2, t5, t6, d4.rd, f1, f2]
                exact ⟨{ p' with w := p'.w.set 0 y }, _, a3, rfl, by omega, f4, f5, f3, by first | omega | (simp; omega), by first | omega | (simp; omega)⟩
            · have x3' : (x == 3) = false := by simp [x3]
              by_cases x4 : x = 4
              · have x4' : (x == 4) = true := by simp [x4]
                simp (config := {implicitDefEqProofs := false, maxDischargeDepth := 20}) (disch := first | omega | (simp only [lenE]; done) | (simp only [lenE]; omega) | rfl | (simp only [lenE, markR_len]; done) | (simp only [lenE, markR_len]; omega)) only [runE, mapE, listE, initT_5, initT_6, initT_7, initT_8, resV, oneV, binA, unA, reduceCtorEq, Nat.reduceEqDiff, Nat.reduceAdd, Nat.reduceLT, Nat.reduceLeDiff, Nat.reduceMul, Nat.reduceSub, ↓reduceIte, decide_true, decide_false, Bool.true_eq_false, Bool.false_eq_true, Bool.not_true, Bool.not_false, if_true, if_false, and_true, true_and, memE, celE, w64, Nat.zero_add, Nat.add_zero, Nat.mul_one, putL, and_self, ldn, tm, t0, t2, t5, t6, x0', x1', x2', x3', x4']
                refine loop_inv mixed (fun s => ∃ (M' : Mem) (r : Nat) (p9 : Mk) (u : Value), s.m = M' ∧ MB (M ++ [⟨.own, 26, [.slice none 0 0, .int .i64 0, .int .i64 0, .int .i64 0]⟩]) M' cb id a2 bx r l p9 u ∧ p9.w.length ≤ 20 ∧ p9.price = p'.price ∧ s.t 0 = .pointer (some ⟨id, 0, none⟩) ∧ s.t 2 = .pointer (some ⟨M.length, 0, none⟩) ∧ s.t 5 = .pointer (some ⟨bx, 0, none⟩)) (fun s => 30 - ((rdc s.m bx 0).elim 0 lenOfA))
                  ⟨M2, _, p', _, rfl, d2, by omega, rfl, by simp only [put_t, put_t', put_m, putT_t, putT_t', putT_m, init_t, init_m, initT_0, initT_1, initT_2, initT_3, initT_4, initT_5, initT_6, initT_7, initT_8, Nat.reduceEqDiff, ↓reduceIte, t0], by simp only [put_t, put_t', put_m, putT_t, putT_t', putT_m, init_t, init_m, initT_0, initT_1, initT_2, initT_3, initT_4, initT_5, initT_6, initT_7, initT_8, Nat.reduceEqDiff, ↓reduceIte, t2], by simp only [put_t, put_t', put_m, putT_t, putT_t', putT_m, init_t, init_m, initT_0, initT_1, initT_2, initT_3, initT_4, initT_5, initT_6, initT_7, initT_8, Nat.reduceEqDiff, ↓reduceIte, t5]⟩ ?_
                clear d2
                rintro s ⟨M', r, p9, u, tm, d2, hl20, hpp, t0, t2, t5⟩
                have hgl := (d2.gr.ints (by omega)).len
                by_cases h10 : (p9.w.length : Int) < 10
                · obtain ⟨M3, M4, ap, sp, d4⟩ := d2.app (by omega) 1
                  simp (config := {implicitDefEqProofs := false, maxDischargeDepth := 20}) (disch := first | omega | (simp only [lenE]; done) | (simp only [lenE]; omega) | rfl | (simp only [lenE, markR_len]; done) | (simp only [lenE, markR_len]; omega)) only [runE, mapE, listE, initT_5, initT_6, initT_7, initT_8, resV, oneV, binA, unA, reduceCtorEq, Nat.reduceEqDiff, Nat.reduceAdd, Nat.reduceLT, Nat.reduceLeDiff, Nat.reduceMul, Nat.reduceSub, ↓reduceIte, decide_true, decide_false, Bool.true_eq_false, Bool.false_eq_true, Bool.not_true, Bool.not_false, if_true, if_false, and_true, true_and, memE, celE, w64, Nat.zero_add, Nat.add_zero, Nat.mul_one, putL, and_self, ldn, tm, t0, t2, t5, d2.rd, hgl, h10, bl_1w, ap, sp]
                  refine ⟨⟨M4, _, _, _, rfl, d4, by simp; omega, hpp⟩, ?_⟩
                  have e1 : lenOfA u = p9.w.length := by
                    rcases d2.gr with ⟨rfl, e⟩ | ⟨rfl, -, -⟩
                    · rw [e]; rfl
                    · rfl
                  rw [d4.rd]
                  show 30 - (p9.w.length + 1) < 30 - lenOfA u
                  rw [e1]; omega
                · simp (config := {implicitDefEqProofs := false, maxDischargeDepth := 20}) (disch := first | omega | (simp only [lenE]; done) | (simp only [lenE]; omega) | rfl | (simp only [lenE, markR_len]; done) | (simp only [lenE, markR_len]; omega)) only [runE, mapE, listE, initT_5, initT_6, initT_7, initT_8, resV, oneV, binA, unA, reduceCtorEq, Nat.reduceEqDiff, Nat.reduceAdd, Nat.reduceLT, Nat.reduceLeDiff, Nat.reduceMul, Nat.reduceSub, ↓reduceIte, decide_true, decide_false, Bool.true_eq_false, Bool.false_eq_true, Bool.not_true, Bool.not_false, if_true, if_false, and_true, true_and, memE, celE, w64, Nat.zero_add, Nat.add_zero, Nat.mul_one, putL, and_self, ldn, tm, t0, t2, t5, d2.rd, hgl, h10]
                  obtain ⟨N2, f1, f2, f3, f4, f5⟩ := MB.fin (s := p9) d2 hid hcb (by first | omega | (simp; omega))
                  simp (config := {implicitDefEqProofs := false, maxDischargeDepth := 20}) (disch := first | omega | (simp only [lenE]; done) | (simp only [lenE]; omega) | rfl | (simp only [lenE, markR_len]; done) | (simp only [lenE, markR_len]; omega)) only [runE, mapE, listE, initT_5, initT_6, initT_7, initT_8, resV, oneV, binA, unA, reduceCtorEq, Nat.reduceEqDiff, Nat.reduceAdd, Nat.reduceLT, Nat.reduceLeDiff, Nat.reduceMul, Nat.reduceSub, ↓reduceIte, decide_true, decide_false, Bool.true_eq_false, Bool.false_eq_true, Bool.not_true, Bool.not_false, if_true, if_false, and_true, true_and, memE, celE, w64, Nat.zero_add, Nat.add_zero, Nat.mul_one, putL, and_self, ldn, tm, t0, t2, t5, d2.rd, f1, f2]
                  exact ⟨p9, _, a2, rfl, by omega, f4, f5, f3, by first | omega | (simp; omega), by first | omega | (simp; omega)⟩
              · have x4' : (x == 4) = false := by simp [x4]
                simp (config := {implicitDefEqProofs := false, maxDischargeDepth := 20}) (disch := first | omega | (simp only [lenE]; done) | (simp only [lenE]; omega) | rfl | (simp only [lenE, markR_len]; done) | (simp only [lenE, markR_len]; omega)) only [runE, mapE, listE, initT_5, initT_6, initT_7, initT_8, resV, oneV, binA, unA, reduceCtorEq, Nat.reduceEqDiff, Nat.reduceAdd, Nat.reduceLT, Nat.reduceLeDiff, Nat.reduceMul, Nat.reduceSub, ↓reduceIte, decide_true, decide_false, Bool.true_eq_false, Bool.false_eq_true, Bool.not_true, Bool.not_false, if_true, if_false, and_true, true_and, memE, celE, w64, Nat.zero_add, Nat.add_zero, Nat.mul_one, putL, and_self, ldn, tm, t0, t2, t5, t6, x0', x1', x2', x3', x4']
                obtain ⟨N2, f1, f2, f3, f4, f5⟩ := MB.fin (s := p') d2 hid hcb (by first | omega | (simp; omega))
                simp (config := {implicitDefEqProofs := false, maxDischargeDepth := 20}) (disch := first | omega | (simp only [lenE]; done) | (simp only [lenE]; omega) | rfl | (simp only [lenE, markR_len]; done) | (simp only [lenE, markR_len]; omega)) only [runE, mapE, listE, initT_5, initT_6, initT_7, initT_8, resV, oneV, binA, unA, reduceCtorEq, Nat.reduceEqDiff, Nat.reduceAdd, Nat.reduceLT, Nat.reduceLeDiff, Nat.reduceMul, Nat.reduceSub, ↓reduceIte, decide_true, decide_false, Bool.true_eq_false, Bool.false_eq_true, Bool.not_true, Bool.not_false, if_true, if_false, and_true, true_and, memE, celE, w64, Nat.zero_add, Nat.add_zero, Nat.mul_one, putL, and_self, ldn, tm, t0, t2, t5, t6, d2.rd, f1, f2]
                exact ⟨p', _, a2, rfl, by omega, f4, f5, f3, by first | omega | (simp; omega), by first | omega | (simp; omega)⟩

end Go.Proofs.Ytpedjcagaeedjaa.Ab
end
section
namespace Go.Proofs.Ytpedjcagaeedjaa.Ab
open Go Go.RowKit
set_option linter.unusedVariables false
set_option linter.unusedSimpArgs false
set_option maxRecDepth 10000
abbrev ctL (c : Ct) : List Value := [.int .i64 c.pay, .int .i64 c.back, .int .i64 c.share]
structure KB (M0 M : Mem) (cb id a bx rc : Nat) (l : List Int) (c : Ct) : Prop where
  hid : id < M0.length
  hcb : cb < M0.length
  cw : Cw id M0 M
  cur : CurA M cb l id a
  box : OwnB M bx 28 (ctL c)
  res : OwnB M rc 28 [.int .i64 0, .int .i64 0, .int .i64 0]
  gb : M0.length ≤ bx
  gr : M0.length ≤ rc
  ne : bx ≠ rc
section
variable {M0 M M2 : Mem} {cb id a a2 bx rc : Nat} {l : List Int} {c : Ct}
theorem KB.draw (h : KB M0 M cb id a bx rc l c) (w : Cw id M M2) (k : CurA M2 cb l id a2) : KB M0 M2 cb id a2 bx rc l c :=
  ⟨h.hid, h.hcb, Cw.trans h.hid h.cw w, k, h.box.at_ (w.old bx (by have := h.hid; have := h.gb; omega) h.box.lt), h.res.at_ (w.old rc (by have := h.hid; have := h.gr; omega) h.res.lt), h.gb, h.gr, h.ne⟩
theorem KB.ext (h : KB M0 M cb id a bx rc l c) {new : Mem} (hn : NoRo new) : KB M0 (M ++ new) cb id a bx rc l c :=
  ⟨h.hid, h.hcb, h.cw.ext hn, h.cur.ext new, h.box.ext new, h.res.ext new, h.gb, h.gr, h.ne⟩
theorem KB.st (h : KB M0 M cb id a bx rc l c) (j : Nat) (x : Int) (c' : Ct) (hj : j < 3) (hp : putL (ctL c) j [.int .i64 x] = ctL c') : ∃ M2, stA M bx j [.int .i64 x] = some M2 ∧ KB M0 M2 cb id a bx rc l c' := by
  have hid := h.hid
  have hcb := h.hcb
  have h1 := h.gb
  have h2 := h.gr
  exact ⟨_, by rw [h.box.st (by simp; omega) rfl, hp], hid, hcb, h.cw.put h1 (by simp), h.cur.put (by omega) (by omega) _, h.box.set_self _ _, h.res.set_ne h.ne _, h1, h2, h.ne⟩
theorem KB.fin (h : KB M0 M cb id a bx rc l c) : ∃ N2, stA M rc 0 [.int .i64 c.pay, .int .i64 c.back, .int .i64 c.share] = some N2 ∧ (∀ k, rdc N2 rc k = (ctL c)[k]?) ∧ Cw id M0 N2 ∧ CurA N2 cb l id a := by
  have hid := h.hid
  have hcb := h.hcb
  have h2 := h.gr
  refine ⟨_, h.res.st (by simp) rfl, fun k => (h.res.set_self _ _).rd k, h.cw.put h2 (by simp), h.cur.put (by omega) (by omega) _⟩
end
theorem contract_ac (M : Mem) (cb id a lo : Nat) (l : List Int) (p : Mk) (u : Value) (h : CurA M cb l id a) (ha : a ≤ 999999000) (hm : LivesMk lo M (mkV p u) p) (hlo : id < lo) (hp : p.price ≤ 100) :
    AC Try.prog 45 [.pointer (some ⟨id, 0, none⟩), mkV p u] M fun v M' => ∃ (c : Ct) (a' : Nat), v = ctV c ∧ a' ≤ a + 30 ∧ Cw id M M' ∧ CurA M' cb l id a' := by
  refine ac_of_run mixed ok_spec_l1Cur__contract (by simp) (go_start _ _ _ ?_)
  have hid := h.lt
  have hcb := h.cblt
  simp (config := {implicitDefEqProofs := false, maxDischargeDepth := 20}) (disch := first | omega | (simp only [lenE]; done) | (simp only [lenE]; omega) | rfl | (simp only [lenE, markR_len]; done) | (simp only [lenE, markR_len]; omega)) only [runE, mapE, listE, initT_5, initT_6, initT_7, initT_8, resV, oneV, binA, unA, reduceCtorEq, Nat.reduceEqDiff, Nat.reduceAdd, Nat.reduceLT, Nat.reduceLeDiff, Nat.reduceMul, Nat.reduceSub, ↓reduceIte, decide_true, decide_false, Bool.true_eq_false, Bool.false_eq_true, Bool.not_true, Bool.not_false, if_true, if_false, and_true, true_and, memE, celE, w64, Nat.zero_add, Nat.add_zero, Nat.mul_one, putL, and_self, ldn, c_spec_l1Cur__contract, r_spec_l1Cur__contract]
  refine callH_rc (l1MostM_rc _ _ _) ?_
  rintro v new ⟨rfl, rfl⟩
  obtain ⟨z, hz, hz1⟩ : ∃ z : Int, max p.price 0 = z ∧ 0 ≤ z ∧ z ≤ 100 := ⟨_, rfl, by omega⟩
  rw [hz]
  obtain ⟨E, hE⟩ : ∃ E, E = M ++ [⟨.own, 26, mkC p u⟩] ++ [⟨.own, 28, [.int .i64 0, .int .i64 0, .int .i64 0]⟩] := ⟨_, rfl⟩
  have cE : Cw id M E := by rw [hE]; exact ((Cw.refl id M).ext (noRo_own noRo_nil)).ext (noRo_own noRo_nil)
  have kE : CurA E cb l id a := by rw [hE]; exact (h.ext _).ext _
  have oM : OwnB E M.length 26 (mkC p u) := by rw [hE]; exact (OwnB.here rfl).ext _
  have oR : OwnB E (M.length + 1) 28 [.int .i64 0, .int .i64 0, .int .i64 0] := by rw [hE]; exact OwnB.here (by simp)
  have LE : E.length = M.length + 2 := by rw [hE]; simp
  try simp only [List.append_assoc, List.cons_append, List.nil_append, List.append_nil] at hE ⊢
  rw [← hE]
  clear hE
  simp (config := {implicitDefEqProofs := false, maxDischargeDepth := 20}) (disch := first | omega | (simp only [lenE]; done) | (simp only [lenE]; omega) | rfl | (simp only [lenE, markR_len]; done) | (simp only [lenE, markR_len]; omega)) only [runE, mapE, listE, initT_5, initT_6, initT_7, initT_8, resV, oneV, binA, unA, reduceCtorEq, Nat.reduceEqDiff, Nat.reduceAdd, Nat.reduceLT, Nat.reduceLeDiff, Nat.reduceMul, Nat.reduceSub, ↓reduceIte, decide_true, decide_false, Bool.true_eq_false, Bool.false_eq_true, Bool.not_true, Bool.not_false, if_true, if_false, and_true, true_and, memE, celE, w64, Nat.zero_add, Nat.add_zero, Nat.mul_one, putL, and_self, ldn]
  refine callH_ac (pick_ac E cb id a l (z + 2) kE (by omega) (by omega) (by omega)) ?_
  rintro v M1 ⟨y0, rfl, hy0, hy1, w1, a1, ha1, k1⟩
  simp (config := {implicitDefEqProofs := false, maxDischargeDepth := 20}) (disch := first | omega | (simp only [lenE]; done) | (simp only [lenE]; omega) | rfl | (simp only [lenE, markR_len]; done) | (simp only [lenE, markR_len]; omega)) only [runE, mapE, listE, initT_5, initT_6, initT_7, initT_8, resV, oneV, binA, unA, reduceCtorEq, Nat.reduceEqDiff, Nat.reduceAdd, Nat.reduceLT, Nat.reduceLeDiff, Nat.reduceMul, Nat.reduceSub, ↓reduceIte, decide_true, decide_false, Bool.true_eq_false, Bool.false_eq_true, Bool.not_true, Bool.not_false, if_true, if_false, and_true, true_and, memE, celE, w64, Nat.zero_add, Nat.add_zero, Nat.mul_one, putL, and_self, ldn]
  refine callH_ac (pick_ac M1 cb id a1 l 6 k1 (by omega) (by omega) (by omega)) ?_
  rintro v M2 ⟨y1, rfl, hb0, hb1, w2, a2, ha2, k2⟩
  have c2 := Cw.trans (by omega) w1 w2
  clear w1 w2 k1
  simp (config := {implicitDefEqProofs := false, maxDischargeDepth := 20}) (disch := first | omega | (simp only [lenE]; done) | (simp only [lenE]; omega) | rfl | (simp only [lenE, markR_len]; done) | (simp only [lenE, markR_len]; omega)) only [runE, mapE, listE, initT_5, initT_6, initT_7, initT_8, resV, oneV, binA, unA, reduceCtorEq, Nat.reduceEqDiff, Nat.reduceAdd, Nat.reduceLT, Nat.reduceLeDiff, Nat.reduceMul, Nat.reduceSub, ↓reduceIte, decide_true, decide_false, Bool.true_eq_false, Bool.false_eq_true, Bool.not_true, Bool.not_false, if_true, if_false, and_true, true_and, memE, celE, w64, Nat.zero_add, Nat.add_zero, Nat.mul_one, putL, and_self, ldn, bl_cS]
  refine callH_ac (among_new M2 cb id a2 l [100, 100, 80, 50, 0] k2 (by omega) rfl rfl (by simp) (by simp)) ?_
  rintro v M3 ⟨y2, -, rfl, w3, a3, ha3, k3⟩
  have c3 := Cw.trans (by omega) c2 w3
  clear c2 w3 k2
  have c3M := Cw.trans hid cE c3
  have oM3 := oM.at_ (c3.old _ (by omega) oM.lt)
  have oR3 := oR.at_ (c3.old _ (by omega) oR.lt)
  have l3 := c3.len
  simp (config := {implicitDefEqProofs := false, maxDischargeDepth := 20}) (disch := first | omega | (simp only [lenE]; done) | (simp only [lenE]; omega) | rfl | (simp only [lenE, markR_len]; done) | (simp only [lenE, markR_len]; omega)) only [runE, mapE, listE, initT_5, initT_6, initT_7, initT_8, resV, oneV, binA, unA, reduceCtorEq, Nat.reduceEqDiff, Nat.reduceAdd, Nat.reduceLT, Nat.reduceLeDiff, Nat.reduceMul, Nat.reduceSub, ↓reduceIte, decide_true, decide_false, Bool.true_eq_false, Bool.false_eq_true, Bool.not_true, Bool.not_false, if_true, if_false, and_true, true_and, memE, celE, w64, Nat.zero_add, Nat.add_zero, Nat.mul_one, putL, and_self, ldn, bld_ct3, stP_aggL, oM3.mk4]
  have d0 : KB M (M3 ++ [⟨.own, 28, [.int .i64 y0, .int .i64 y1, .int .i64 y2]⟩]) cb id a3 M3.length (M.length + 1) l ⟨y0, y1, y2⟩ :=
    ⟨hid, hcb, c3M.ext (noRo_own noRo_nil), k3.ext _, OwnB.here rfl, oR3.ext _, by omega, by omega, by omega⟩
  have oM4 := oM3.ext [⟨.own, 28, [.int .i64 y0, .int .i64 y1, .int .i64 y2]⟩]
  generalize M3 ++ [(⟨.own, 28, [.int .i64 y0, .int .i64 y1, .int .i64 y2]⟩ : Blk)] = N at *
  have lN : M3.length < N.length := d0.box.lt
  obtain ⟨bx, hbx⟩ : ∃ bx, bx = M3.length := ⟨_, rfl⟩
  rw [← hbx] at d0 ⊢
  clear k3 c3 c3M oM oR oM3 oR3 kE
  try simp (config := {implicitDefEqProofs := false, maxDischargeDepth := 20}) (disch := first | omega | (simp only [lenE]; done) | (simp only [lenE]; omega) | rfl | (simp only [lenE, markR_len]; done) | (simp only [lenE, markR_len]; omega)) only [runE, mapE, listE, initT_5, initT_6, initT_7, initT_8, resV, oneV, binA, unA, reduceCtorEq, Nat.reduceEqDiff, Nat.reduceAdd, Nat.reduceLT, Nat.reduceLeDiff, Nat.reduceMul, Nat.reduceSub, ↓reduceIte, decide_true, decide_false, Bool.true_eq_false, Bool.false_eq_true, Bool.not_true, Bool.not_false, if_true, if_false, and_true, true_and, memE, celE, w64, Nat.zero_add, Nat.add_zero, Nat.mul_one, putL, and_self, ldn, oM4.mk4, d0.box.mk3]
  refine callH_rc (specPayFor_rc _ (mkV p u) p y1 y2 (hm.cw hlo d0.cw).here) ?_
  rintro v new ⟨rfl, nr⟩
  obtain ⟨zp, hzp⟩ : ∃ z, z = payV (payO p y1 y2) := ⟨_, rfl⟩
  obtain ⟨zb, hzb⟩ : ∃ z, z = (payO p y1 y2).isSome := ⟨_, rfl⟩
  rw [← hzp, ← hzb]
  have d1 := d0.ext nr
  generalize N ++ new = N1 at *
  clear d0 nr oM4
  cases zb with
  | false =>
    as_aux_lemma =>
    simp (config := {implicitDefEqProofs := false, maxDischargeDepth := 20}) (disch := first | omega | (simp only [lenE]; done) | (simp only [lenE]; omega) | rfl | (simp only [lenE, markR_len]; done) | (simp only [lenE, markR_len]; omega)) only [runE, mapE, listE, initT_5, initT_6, initT_7, initT_8, resV, oneV, binA, unA, reduceCtorEq, Nat.reduceEqDiff, Nat.reduceAdd, Nat.reduceLT, Nat.reduceLeDiff, Nat.reduceMul, Nat.reduceSub, ↓reduceIte, decide_true, decide_false, Bool.true_eq_false, Bool.false_eq_true, Bool.not_true, Bool.not_false, if_true, if_false, and_true, true_and, memE, celE, w64, Nat.zero_add, Nat.add_zero, Nat.mul_one, putL, and_self, ldn, ext_2_0, ext_2_1]
    obtain ⟨M', hM'⟩ : ∃ M', M' = N1 := ⟨_, rfl⟩
    obtain ⟨a', haa, ha3⟩ : ∃ a', a' = a3 ∧ a' ≤ a + 12 := ⟨a3, rfl, by omega⟩
    obtain ⟨c, hc⟩ : ∃ c : Ct, c = ⟨y0, y1, y2⟩ := ⟨_, rfl⟩
    rw [← hM', ← haa, ← hc] at d1
    rw [← hM']
    have d := d1
    refine callH_ac (pick_ac M' cb id a' l 40 d.cur (by omega) (by omega) (by omega)) ?_
    rintro v M2 ⟨x, rfl, hx0, hx1, w2, a2, ha2, k2⟩
    have d2 := d.draw w2 k2
    clear w2 k2 d
    by_cases x0 : x = 0
    · have x0' : (x == 0) = true := by simp [x0]
      simp (config := {implicitDefEqProofs := false, maxDischargeDepth := 20}) (disch := first | omega | (simp only [lenE]; done) | (simp only [lenE]; omega) | rfl | (simp only [lenE, markR_len]; done) | (simp only [lenE, markR_len]; omega)) only [runE, mapE, listE, initT_5, initT_6, initT_7, initT_8, resV, oneV, binA, unA, reduceCtorEq, Nat.reduceEqDiff, Nat.reduceAdd, Nat.reduceLT, Nat.reduceLeDiff, Nat.reduceMul, Nat.reduceSub, ↓reduceIte, decide_true, decide_false, Bool.true_eq_false, Bool.false_eq_true, Bool.not_true, Bool.not_false, if_true, if_false, and_true, true_and, memE, celE, w64, Nat.zero_add, Nat.add_zero, Nat.mul_one, putL, and_self, ldn, x0', bl_cA]
      refine callH_ac (among_new M2 cb id a2 l [-1, 99, 100] d2.cur (by omega) rfl rfl (by simp) (by simp)) ?_
      rintro v M3 ⟨y, -, rfl, w3, a3, ha3, k3⟩
      have d3 := d2.draw w3 k3
      obtain ⟨M4, s1, d4⟩ := d3.st 0 y { c with pay := y } (by omega) (by simp [putL])
      obtain ⟨N2, f1, f2, f3, f4⟩ := d4.fin
      simp (config := {implicitDefEqProofs := false, maxDischargeDepth := 20}) (disch := first | omega | (simp only [lenE]; done) | (simp only [lenE]; omega) | rfl | (simp only [lenE, markR_len]; done) | (simp only [lenE, markR_len]; omega)) only [runE, mapE, listE, initT_5, initT_6, initT_7, initT_8, resV, oneV, binA, unA, reduceCtorEq, Nat.reduceEqDiff, Nat.reduceAdd, Nat.reduceLT, Nat.reduceLeDiff, Nat.reduceMul, Nat.reduceSub, ↓reduceIte, decide_true, decide_false, Bool.true_eq_false, Bool.false_eq_true, Bool.not_true, Bool.not_false, if_true, if_false, and_true, true_and, memE, celE, w64, Nat.zero_add, Nat.add_zero, Nat.mul_one, putL, and_self, ldn, s1, d4.box.rd, stP_aggL, f1, f2]
      exact ⟨{ c with pay := y }, a3, rfl, by omega, f3, f4⟩
    · have x0' : (x == 0) = false := by simp [x0]
      by_cases x1 : x = 1
      · have x1' : (x == 1) = true := by simp [x1]
        simp (config := {implicitDefEqProofs := false, maxDischargeDepth := 20}) (disch := first | omega | (simp only [lenE]; done) | (simp only [lenE]; omega) | rfl | (simp only [lenE, markR_len]; done) | (simp only [lenE, markR_len]; omega)) only [runE, mapE, listE, initT_5, initT_6, initT_7, initT_8, resV, oneV, binA, unA, reduceCtorEq, Nat.reduceEqDiff, Nat.reduceAdd, Nat.reduceLT, Nat.reduceLeDiff, Nat.reduceMul, Nat.reduceSub, ↓reduceIte, decide_true, decide_false, Bool.true_eq_false, Bool.false_eq_true, Bool.not_true, Bool.not_false, if_true, if_false, and_true, true_and, memE, celE, w64, Nat.zero_add, Nat.add_zero, Nat.mul_one, putL, and_self, ldn, x0', x1', bl_cA]
        refine callH_ac (among_new M2 cb id a2 l [-1, 99, 100] d2.cur (by omega) rfl rfl (by simp) (by simp)) ?_
        rintro v M3 ⟨y, -, rfl, w3, a3, ha3, k3⟩
        have d3 := d2.draw w3 k3
        obtain ⟨M4, s1, d4⟩ := d3.st 1 y { c with back := y } (by omega) (by simp [putL])
        obtain ⟨N2, f1, f2, f3, f4⟩ := d4.fin
        simp (config := {implicitDefEqProofs := false, maxDischargeDepth := 20}) (disch := first | omega | (simp only [lenE]; done) | (simp only [lenE]; omega) | rfl | (simp only [lenE, markR_len]; done) | (simp only [lenE, markR_len]; omega)) only [runE, mapE, listE, initT_5, initT_6, initT_7, initT_8, resV, oneV, binA, unA, reduceCtorEq, Nat.reduceEqDiff, Nat.reduceAdd, Nat.reduceLT, Nat.reduceLeDiff, Nat.reduceMul, Nat.reduceSub, ↓reduceIte, decide_true, decide_false, Bool.true_eq_false, Bool.false_eq_true, Bool.not_true, Bool.not_false, if_true, if_false, and_true, true_and, memE, celE, w64, Nat.zero_add, Nat.add_zero, Nat.mul_one, putL, and_self, ldn, s1, d4.box.rd, stP_aggL, f1, f2]
        exact ⟨{ c with back := y }, a3, rfl, by omega, f3, f4⟩
      · have x1' : (x == 1) = false := by simp [x1]
        by_cases x2 : x = 2
        · have x2' : (x == 2) = true := by simp [x2]
          simp (config := {implicitDefEqProofs := false, maxDischargeDepth := 20}) (disch := first | omega | (simp only [lenE]; done) | (simp only [lenE]; omega) | rfl | (simp only [lenE, markR_len]; done) | (simp only [lenE, markR_len]; omega)) only [runE, mapE, listE, initT_5, initT_6, initT_7, initT_8, resV, oneV, binA, unA, reduceCtorEq, Nat.reduceEqDiff, Nat.reduceAdd, Nat.reduceLT, Nat.reduceLeDiff, Nat.reduceMul, Nat.reduceSub, ↓reduceIte, decide_true, decide_false, Bool.true_eq_false, Bool.false_eq_true, Bool.not_true, Bool.not_false, if_true, if_false, and_true, true_and, memE, celE, w64, Nat.zero_add, Nat.add_zero, Nat.mul_one, putL, and_self, ldn, x0', x1', x2', bl_cB]
          refine callH_ac (among_new M2 cb id a2 l [-1, 101] d2.cur (by omega) rfl rfl (by simp) (by simp)) ?_
          rintro v M3 ⟨y, -, rfl, w3, a3, ha3, k3⟩
          have d3 := d2.draw w3 k3
          obtain ⟨M4, s1, d4⟩ := d3.st 2 y { c with share := y } (by omega) (by simp [putL])
          obtain ⟨N2, f1, f2, f3, f4⟩ := d4.fin
          simp (config := {implicitDefEqProofs := false, maxDischargeDepth := 20}) (disch := first | omega | (simp only [lenE]; done) | (simp only [lenE]; omega) | rfl | (simp only [lenE, markR_len]; done) | (simp only [lenE, markR_len]; omega)) only [runE, mapE, listE, initT_5, initT_6, initT_7, initT_8, resV, oneV, binA, unA, reduceCtorEq, Nat.reduceEqDiff, Nat.reduceAdd, Nat.reduceLT, Nat.reduceLeDiff, Nat.reduceMul, Nat.reduceSub, ↓reduceIte, decide_true, decide_false, Bool.true_eq_false, Bool.false_eq_true, Bool.not_true, Bool.not_false, if_true, if_false, and_true, true_and, memE, celE, w64, Nat.zero_add, Nat.add_zero, Nat.mul_one, putL, and_self, ldn, s1, d4.box.rd, stP_aggL, f1, f2]
          exact ⟨{ c with share := y }, a3, rfl, by omega, f3, f4⟩
        · have x2' : (x == 2) = false := by simp [x2]
          obtain ⟨N2, f1, f2, f3, f4⟩ := d2.fin
          simp (config := {implicitDefEqProofs := false, maxDischargeDepth := 20}) (disch := first | omega | (simp only [lenE]; done) | (simp only [lenE]; omega) | rfl | (simp only [lenE, markR_len]; done) | (simp only [lenE, markR_len]; omega)) only [runE, mapE, listE, initT_5, initT_6, initT_7, initT_8, resV, oneV, binA, unA, reduceCtorEq, Nat.reduceEqDiff, Nat.reduceAdd, Nat.reduceLT, Nat.reduceLeDiff, Nat.reduceMul, Nat.reduceSub, ↓reduceIte, decide_true, decide_false, Bool.true_eq_false, Bool.false_eq_true, Bool.not_true, Bool.not_false, if_true, if_false, and_true, true_and, memE, celE, w64, Nat.zero_add, Nat.add_zero, Nat.mul_one, putL, and_self, ldn, x0', x1', x2', d2.box.rd, stP_aggL, f1, f2]
          exact ⟨c, a2, rfl, by omega, f3, f4⟩
  | true =>
    as_aux_lemma =>
    simp (config := {implicitDefEqProofs := false, maxDischargeDepth := 20}) (disch := first | omega | (simp only [lenE]; done) | (simp only [lenE]; omega) | rfl | (simp only [lenE, markR_len]; done) | (simp only [lenE, markR_len]; omega)) only [runE, mapE, listE, initT_5, initT_6, initT_7, initT_8, resV, oneV, binA, unA, reduceCtorEq, Nat.reduceEqDiff, Nat.reduceAdd, Nat.reduceLT, Nat.reduceLeDiff, Nat.reduceMul, Nat.reduceSub, ↓reduceIte, decide_true, decide_false, Bool.true_eq_false, Bool.false_eq_true, Bool.not_true, Bool.not_false, if_true, if_false, and_true, true_and, memE, celE, w64, Nat.zero_add, Nat.add_zero, Nat.mul_one, putL, and_self, ldn, ext_2_0, ext_2_1]
    refine callH_ac (one_ac N1 cb id a3 l 2 d1.cur (by omega) (by omega) (by omega)) ?_
    rintro v N2 ⟨b, rfl, w2, a4, ha4, k2⟩
    have d2 := d1.draw w2 k2
    obtain ⟨a', haa, ha5⟩ : ∃ a', a' = a4 ∧ a' ≤ a + 12 := ⟨a4, rfl, by omega⟩
    rw [← haa] at d2
    cases b with
    | true =>
      obtain ⟨N3, s1, d3⟩ := d2.st 0 zp ⟨zp, y1, y2⟩ (by omega) (by simp [putL])
      simp (config := {implicitDefEqProofs := false, maxDischargeDepth := 20}) (disch := first | omega | (simp only [lenE]; done) | (simp only [lenE]; omega) | rfl | (simp only [lenE, markR_len]; done) | (simp only [lenE, markR_len]; omega)) only [runE, mapE, listE, initT_5, initT_6, initT_7, initT_8, resV, oneV, binA, unA, reduceCtorEq, Nat.reduceEqDiff, Nat.reduceAdd, Nat.reduceLT, Nat.reduceLeDiff, Nat.reduceMul, Nat.reduceSub, ↓reduceIte, decide_true, decide_false, Bool.true_eq_false, Bool.false_eq_true, Bool.not_true, Bool.not_false, if_true, if_false, and_true, true_and, memE, celE, w64, Nat.zero_add, Nat.add_zero, Nat.mul_one, putL, and_self, ldn, s1]
      obtain ⟨M', hM'⟩ : ∃ M', M' = N3 := ⟨_, rfl⟩
      obtain ⟨c, hc⟩ : ∃ c : Ct, c = ⟨zp, y1, y2⟩ := ⟨_, rfl⟩
      rw [← hM', ← hc] at d3
      rw [← hM']
      have d := d3
      refine callH_ac (pick_ac M' cb id a' l 40 d.cur (by omega) (by omega) (by omega)) ?_
      rintro v M2 ⟨x, rfl, hx0, hx1, w2, a2, ha2, k2⟩
      have d2 := d.draw w2 k2
      clear w2 k2 d
      by_cases x0 : x = 0
      · have x0' : (x == 0) = true := by simp [x0]
        simp (config := {implicitDefEqProofs := false, maxDischargeDepth := 20}) (disch := first | omega | (simp only [lenE]; done) | (simp only [lenE]; omega) | rfl | (simp only [lenE, markR_len]; done) | (simp only [lenE, markR_len]; omega)) only [runE, mapE, listE, initT_5, initT_6, initT_7, initT_8, resV, oneV, binA, unA, reduceCtorEq, Nat.reduceEqDiff, Nat.reduceAdd, Nat.reduceLT, Nat.reduceLeDiff, Nat.reduceMul, Nat.reduceSub, ↓reduceIte, decide_true, decide_false, Bool.true_eq_false, Bool.false_eq_true, Bool.not_true, Bool.not_false, if_true, if_false, and_true, true_and, memE, celE, w64, Nat.zero_add, Nat.add_zero, Nat.mul_one, putL, and_self, ldn, x0', bl_cA]
        refine callH_ac (among_new M2 cb id a2 l [-1, 99, 100] d2.cur (by omega) rfl rfl (by simp) (by simp)) ?_
        rintro v M3 ⟨y, -, rfl, w3, a3, ha3, k3⟩
        have d3 := d2.draw w3 k3
        obtain ⟨M4, s1, d4⟩ := d3.st 0 y { c with pay := y } (by omega) (by simp [putL])
        obtain ⟨N2, f1, f2, f3, f4⟩ := d4.fin
        simp (config := {implicitDefEqProofs := false, maxDischargeDepth := 20}) (disch := first | omega | (simp only [lenE]; done) | (simp only [lenE]; omega) | rfl | (simp only [lenE, markR_len]; done) | (simp only [lenE, markR_len]; omega)) only [runE, mapE, listE, initT_5, initT_6, initT_7, initT_8, resV, oneV, binA, unA, reduceCtorEq, Nat.reduceEqDiff, Nat.reduceAdd, Nat.reduceLT, Nat.reduceLeDiff, Nat.reduceMul, Nat.reduceSub, ↓reduceIte, decide_true, decide_false, Bool.true_eq_false, Bool.false_eq_true, Bool.not_true, Bool.not_false, if_true, if_false, and_true, true_and, memE, celE, w64, Nat.zero_add, Nat.add_zero, Nat.mul_one, putL, and_self, ldn, s1, d4.box.rd, stP_aggL, f1, f2]
        exact ⟨{ c with pay := y }, a3, rfl, by omega, f3, f4⟩
      · have x0' : (x == 0) = false := by simp [x0]
        by_cases x1 : x = 1
        · have x1' : (x == 1) = true := by simp [x1]
          simp (config := {implicitDefEqProofs := false, maxDischargeDepth := 20}) (disch := first | omega | (simp only [lenE]; done) | (simp only [lenE]; omega) | rfl | (simp only [lenE, markR_len]; done) | (simp only [lenE, markR_len]; omega)) only [runE, mapE, listE, initT_5, initT_6, initT_7, initT_8, resV, oneV, binA, unA, reduceCtorEq, Nat.reduceEqDiff, Nat.reduceAdd, Nat.reduceLT, Nat.reduceLeDiff, Nat.reduceMul, Nat.reduceSub, ↓reduceIte, decide_true, decide_false, Bool.true_eq_false, Bool.false_eq_true, Bool.not_true, Bool.not_false, if_true, if_false, and_true, true_and, memE, celE, w64, Nat.zero_add, Nat.add_zero, Nat.mul_one, putL, and_self, ldn, x0', x1', bl_cA]
          refine callH_ac (among_new M2 cb id a2 l [-1, 99, 100] d2.cur (by omega) rfl rfl (by simp) (by simp)) ?_
          rintro v M3 ⟨y, -, rfl, w3, a3, ha3, k3⟩
          have d3 := d2.draw w3 k3
          obtain ⟨M4, s1, d4⟩ := d3.st 1 y { c with back := y } (by omega) (by simp [putL])
          obtain ⟨N2, f1, f2, f3, f4⟩ := d4.fin
          simp (config := {implicitDefEqProofs := false, maxDischargeDepth := 20}) (disch := first | omega | (simp only [lenE]; done) | (simp only [lenE]; omega) | rfl | (simp only [lenE, markR_len]; done) | (simp only [lenE, markR_len]; omega)) only [runE, mapE, listE, initT_5, initT_6, initT_7, initT_8, resV, oneV, binA, unA, reduceCtorEq, Nat.reduceEqDiff, Nat.reduceAdd, Nat.reduceLT, Nat.reduceLeDiff, Nat.reduceMul, Nat.reduceSub, ↓reduceIte, decide_true, decide_false, Bool.true_eq_false, Bool.false_eq_true, Bool.not_true, Bool.not_false, if_true, if_false, and_true, true_and, memE, celE, w64, Nat.zero_add, Nat.add_zero, Nat.mul_one, putL, and_self, ldn, s1, d4.box.rd, stP_aggL, f1, f2]
          exact ⟨{ c with back := y }, a3, rfl, by omega, f3, f4⟩
        · have x1' : (x == 1) = false := by simp [x1]
          by_cases x2 : x = 2
          · have x2' : (x == 2) = true := by simp [x2]
            simp (config := {implicitDefEqProofs := false, maxDischargeDepth := 20}) (disch := first | omega | (simp only [lenE]; done) | (simp only [lenE]; omega) | rfl | (simp only [lenE, markR_len]; done) | (simp only [lenE, markR_len]; omega)) only [runE, mapE, listE, initT_5, initT_6, initT_7, initT_8, resV, oneV, binA, unA, reduceCtorEq, Nat.reduceEqDiff, Nat.reduceAdd, Nat.reduceLT, Nat.reduceLeDiff, Nat.reduceMul, Nat.reduceSub, ↓reduceIte, decide_true, decide_false, Bool.true_eq_false, Bool.false_eq_true, Bool.not_true, Bool.not_false, if_true, if_false, and_true, true_and, memE, celE, w64, Nat.zero_add, Nat.add_zero, Nat.mul_one, putL, and_self, ldn, x0', x1', x2', bl_cB]
            refine callH_ac (among_new M2 cb id a2 l [-1, 101] d2.cur (by omega) rfl rfl (by simp) (by simp)) ?_
            rintro v M3 ⟨y, -, rfl, w3, a3, ha3, k3⟩
            have d3 := d2.draw w3 k3
            obtain ⟨M4, s1, d4⟩ := d3.st 2 y { c with share := y } (by omega) (by simp [putL])
            obtain ⟨N2, f1, f2, f3, f4⟩ := d4.fin
            simp (config := {implicitDefEqProofs := false, maxDischargeDepth := 20}) (disch := first | omega | (simp only [lenE]; done) | (simp only [lenE]; omega) | rfl | (simp only [lenE, markR_len]; done) | (simp only [lenE, markR_len]; omega)) only [runE, mapE, listE, initT_5, initT_6, initT_7, initT_8, resV, oneV, binA, unA, reduceCtorEq, Nat.reduceEqDiff, Nat.reduceAdd, Nat.reduceLT, Nat.reduceLeDiff, Nat.reduceMul, Nat.reduceSub, ↓reduceIte, decide_true, decide_false, Bool.true_eq_false, Bool.false_eq_true, Bool.not_true, Bool.not_false, if_true, if_false, and_true, true_and, memE, celE, w64, Nat.zero_add, Nat.add_zero, Nat.mul_one, putL, and_self, ldn, s1, d4.box.rd, stP_aggL, f1, f2]
            exact ⟨{ c with share := y }, a3, rfl, by omega, f3, f4⟩
          · have x2' : (x == 2) = false := by simp [x2]
            obtain ⟨N2, f1, f2, f3, f4⟩ := d2.fin
            simp (config := {implicitDefEqProofs := false, maxDischargeDepth := 20}) (disch := first | omega | (simp only [lenE]; done) | (simp only [lenE]; omega) | rfl | (simp only [lenE, markR_len]; done) | (simp only [lenE, markR_len]; omega)) only [runE, mapE, listE, initT_5, initT_6, initT_7, initT_8, resV, oneV, binA, unA, reduceCtorEq, Nat.reduceEqDiff, Nat.reduceAdd, Nat.reduceLT, Nat.reduceLeDiff, Nat.reduceMul, Nat.reduceSub, ↓reduceIte, decide_true, decide_false, Bool.true_eq_false, Bool.false_eq_true, Bool.not_true, Bool.not_false, if_true, if_false, and_true, true_and, memE, celE, w64, Nat.zero_add, Nat.add_zero, Nat.mul_one, putL, and_self, ldn, x0', x1', x2', d2.box.rd, stP_aggL, f1, f2]
            exact ⟨c, a2, rfl, by omega, f3, f4⟩
    | false =>
      simp (config := {implicitDefEqProofs := false, maxDischargeDepth := 20}) (disch := first | omega | (simp only [lenE]; done) | (simp only [lenE]; omega) | rfl | (simp only [lenE, markR_len]; done) | (simp only [lenE, markR_len]; omega)) only [runE, mapE, listE, initT_5, initT_6, initT_7, initT_8, resV, oneV, binA, unA, reduceCtorEq, Nat.reduceEqDiff, Nat.reduceAdd, Nat.reduceLT, Nat.reduceLeDiff, Nat.reduceMul, Nat.reduceSub, ↓reduceIte, decide_true, decide_false, Bool.true_eq_false, Bool.false_eq_true, Bool.not_true, Bool.not_false, if_true, if_false, and_true, true_and, memE, celE, w64, Nat.zero_add, Nat.add_zero, Nat.mul_one, putL, and_self, ldn]
      obtain ⟨M', hM'⟩ : ∃ M', M' = N2 := ⟨_, rfl⟩
      obtain ⟨c, hc⟩ : ∃ c : Ct, c = ⟨y0, y1, y2⟩ := ⟨_, rfl⟩
      rw [← hM', ← hc] at d2
      rw [← hM']
      have d := d2
      clear d2
      refine callH_ac (pick_ac M' cb id a' l 40 d.cur (by omega) (by omega) (by omega)) ?_
      rintro v M2 ⟨x, rfl, hx0, hx1, w2, a2, ha2, k2⟩
      have d2 := d.draw w2 k2
      clear w2 k2 d
      by_cases x0 : x = 0
      · have x0' : (x == 0) = true := by simp [x0]
        simp (config := {implicitDefEqProofs := false, maxDischargeDepth := 20}) (disch := first | omega | (simp only [lenE]; done) | (simp only [lenE]; omega) | rfl | (simp only [lenE, markR_len]; done) | (simp only [lenE, markR_len]; omega)) only [runE, mapE, listE, initT_5, initT_6, initT_7, initT_8, resV, oneV, binA, unA, reduceCtorEq, Nat.reduceEqDiff, Nat.reduceAdd, Nat.reduceLT, Nat.reduceLeDiff, Nat.reduceMul, Nat.reduceSub, ↓reduceIte, decide_true, decide_false, Bool.true_eq_false, Bool.false_eq_true, Bool.not_true, Bool.not_false, if_true, if_false, and_true, true_and, memE, celE, w64, Nat.zero_add, Nat.add_zero, Nat.mul_one, putL, and_self, ldn, x0', bl_cA]
        refine callH_ac (among_new M2 cb id a2 l [-1, 99, 100] d2.cur (by omega) rfl rfl (by simp) (by simp)) ?_
        rintro v M3 ⟨y, -, rfl, w3, a3, ha3, k3⟩
        have d3 := d2.draw w3 k3
        obtain ⟨M4, s1, d4⟩ := d3.st 0 y { c with pay := y } (by omega) (by simp [putL])
        obtain ⟨N2, f1, f2, f3, f4⟩ := d4.fin
        simp (config := {implicitDefEqProofs := false, maxDischargeDepth := 20}) (disch := first | omega | (simp only [lenE]; done) | (simp only [lenE]; omega) | rfl | (simp only [lenE, markR_len]; done) | (simp only [lenE, markR_len]; omega)) only [runE, mapE, listE, initT_5, initT_6, initT_7, initT_8, resV, oneV, binA, unA, reduceCtorEq, Nat.reduceEqDiff, Nat.reduceAdd, Nat.reduceLT, Nat.reduceLeDiff, Nat.reduceMul, Nat.reduceSub, ↓reduceIte, decide_true, decide_false, Bool.true_eq_false, Bool.false_eq_true, Bool.not_true, Bool.not_false, if_true, if_false, and_true, true_and, memE, celE, w64, Nat.zero_add, Nat.add_zero, Nat.mul_one, putL, and_self, ldn, s1, d4.box.rd, stP_aggL, f1, f2]
        exact ⟨{ c with pay := y }, a3, rfl, by omega, f3, f4⟩
      · have x0' : (x == 0) = false := by simp [x0]
        by_cases x1 : x = 1
        · have x1' : (x == 1) = true := by simp [x1]
          simp (config := {implicitDefEqProofs := false, maxDischargeDepth := 20}) (disch := first | omega | (simp only [lenE]; done) | (simp only [lenE]; omega) | rfl | (simp only [lenE, markR_len]; done) | (simp only [lenE, markR_len]; omega)) only [runE, mapE, listE, initT_5, initT_6, initT_7, initT_8, resV, oneV, binA, unA, reduceCtorEq, Nat.reduceEqDiff, Nat.reduceAdd, Nat.reduceLT, Nat.reduceLeDiff, Nat.reduceMul, Nat.reduceSub, ↓reduceIte, decide_true, decide_false, Bool.true_eq_false, Bool.false_eq_true, Bool.not_true, Bool.not_false, if_true, if_false, and_true, true_and, memE, celE, w64, Nat.zero_add, Nat.add_zero, Nat.mul_one, putL, and_self, ldn, x0', x1', bl_cA]
          refine callH_ac (among_new M2 cb id a2 l [-1, 99, 100] d2.cur (by omega) rfl rfl (by simp) (by simp)) ?_
          rintro v M3 ⟨y, -, rfl, w3, a3, ha3, k3⟩
          have d3 := d2.draw w3 k3
          obtain ⟨M4, s1, d4⟩ := d3.st 1 y { c with back := y } (by omega) (by simp [putL])
          obtain ⟨N2, f1, f2, f3, f4⟩ := d4.fin
          simp (config := {implicitDefEqProofs := false, maxDischargeDepth := 20}) (disch := first | omega | (simp only [lenE]; done) | (simp only [lenE]; omega) | rfl | (simp only [lenE, markR_len]; done) | (simp only [lenE, markR_len]; omega)) only [runE, mapE, listE, initT_5, initT_6, initT_7, initT_8, resV, oneV, binA, unA, reduceCtorEq, Nat.reduceEqDiff, Nat.reduceAdd, Nat.reduceLT, Nat.reduceLeDiff, Nat.reduceMul, Nat.reduceSub, ↓reduceIte, decide_true, decide_false, Bool.true_eq_false, Bool.false_eq_true, Bool.not_true, Bool.not_false, if_true, if_false, and_true, true_and, memE, celE, w64, Nat.zero_add, Nat.add_zero, Nat.mul_one, putL, and_self, ldn, s1, d4.box.rd, stP_aggL, f1, f2]
          exact ⟨{ c with back := y }, a3, rfl, by omega, f3, f4⟩
        · have x1' : (x == 1) = false := by simp [x1]
          by_cases x2 : x = 2
          · have x2' : (x == 2) = true := by simp [x2]
            simp (config := {implicitDefEqProofs := false, maxDischargeDepth := 20}) (disch := first | omega | (simp only [lenE]; done) | (simp only [lenE]; omega) | rfl | (simp only [lenE, markR_len]; done) | (simp only [lenE, markR_len]; omega)) only [runE, mapE, listE, initT_5, initT_6, initT_7, initT_8, resV, oneV, binA, unA, reduceCtorEq, Nat.reduceEqDiff, Nat.reduceAdd, Nat.reduceLT, Nat.reduceLeDiff, Nat.reduceMul, Nat.reduceSub, ↓reduceIte, decide_true, decide_false, Bool.true_eq_false, Bool.false_eq_true, Bool.not_true, Bool.not_false, if_true, if_false, and_true, true_and, memE, celE, w64, Nat.zero_add, Nat.add_zero, Nat.mul_one, putL, and_self, ldn, x0', x1', x2', bl_cB]
            refine callH_ac (among_new M2 cb id a2 l [-1, 101] d2.cur (by omega) rfl rfl (by simp) (by simp)) ?_
            rintro v M3 ⟨y, -, rfl, w3, a3, ha3, k3⟩
            have d3 := d2.draw w3 k3
            obtain ⟨M4, s1, d4⟩ := d3.st 2 y { c with share := y } (by omega) (by simp [putL])
            obtain ⟨N2, f1, f2, f3, f4⟩ := d4.fin
            simp (config := {implicitDefEqProofs := false, maxDischargeDepth := 20}) (disch := first | omega | (simp only [lenE]; done) | (simp only [lenE]; omega) | rfl | (simp only [lenE, markR_len]; done) | (simp only [lenE, markR_len]; omega)) only [runE, mapE, listE, initT_5, initT_6, initT_7, initT_8, resV, oneV, binA, unA, reduceCtorEq, Nat.reduceEqDiff, Nat.reduceAdd, Nat.reduceLT, Nat.reduceLeDiff, Nat.reduceMul, Nat.reduceSub, ↓reduceIte, decide_true, decide_false, Bool.true_eq_false, Bool.false_eq_true, Bool.not_true, Bool.not_false, if_true, if_false, and_true, true_and, memE, celE, w64, Nat.zero_add, Nat.add_zero, Nat.mul_one, putL, and_self, ldn, s1, d4.box.rd, stP_aggL, f1, f2]
            exact ⟨{ c with share := y }, a3, rfl, by omega, f3, f4⟩
          · have x2' : (x == 2) = false := by simp [x2]
            obtain ⟨N2, f1, f2, f3, f4⟩ := d2.fin
            simp (config := {implicitDefEqProofs := false, maxDischargeDepth := 20}) (disch := first | omega | (simp only [lenE]; done) | (simp only [lenE]; omega) | rfl | (simp only [lenE, markR_len]; done) | (simp only [lenE, markR_len]; omega)) only [runE, mapE, listE, initT_5, initT_6, initT_7, initT_8, resV, oneV, binA, unA, reduceCtorEq, Nat.reduceEqDiff, Nat.reduceAdd, Nat.reduceLT, Nat.reduceLeDiff, Nat.reduceMul, Nat.reduceSub, ↓reduceIte, decide_true, decide_false, Bool.true_eq_false, Bool.false_eq_true, Bool.not_true, Bool.not_false, if_true, if_false, and_true, true_and, memE, celE, w64, Nat.zero_add, Nat.add_zero, Nat.mul_one, putL, and_self, ldn, x0', x1', x2', d2.box.rd, stP_aggL, f1, f2]
            exact ⟨c, a2, rfl, by omega, f3, f4⟩
theorem sold_ac (M : Mem) (cb id a : Nat) (l : List Int) (h : CurA M cb l id a) (ha : a ≤ 999999000) :
    AC Try.prog 46 [.pointer (some ⟨id, 0, none⟩)] M fun v M' => ∃ (x : Int) (a' : Nat), v = .int .i64 x ∧ a' ≤ a + 10 ∧ Cw id M M' ∧ CurA M' cb l id a' := by
  refine ac_of_run mixed ok_spec_l1Cur__sold (by simp) (go_start _ _ _ ?_)
  simp (config := {implicitDefEqProofs := false, maxDischargeDepth := 20}) (disch := first | omega | (simp only [lenE]; done) | (simp only [lenE]; omega) | rfl | (simp only [lenE, markR_len]; done) | (simp only [lenE, markR_len]; omega)) only [runE, mapE, listE, initT_5, initT_6, initT_7, initT_8, resV, oneV, binA, unA, reduceCtorEq, Nat.reduceEqDiff, Nat.reduceAdd, Nat.reduceLT, Nat.reduceLeDiff, Nat.reduceMul, Nat.reduceSub, ↓reduceIte, decide_true, decide_false, Bool.true_eq_false, Bool.false_eq_true, Bool.not_true, Bool.not_false, if_true, if_false, and_true, true_and, memE, celE, w64, Nat.zero_add, Nat.add_zero, Nat.mul_one, putL, and_self, ldn, c_spec_l1Cur__sold, r_spec_l1Cur__sold, bl_sO]
  refine callH_ac (among_new M cb id a l [0, 1, 2, 3, 4, 5, 8, 9, -1, 6, 7] h (by omega) rfl rfl (by simp) (by simp)) ?_
  rintro v M1 ⟨y0, -, rfl, w1, a1, ha1, k1⟩
  simp (config := {implicitDefEqProofs := false, maxDischargeDepth := 20}) (disch := first | omega | (simp only [lenE]; done) | (simp only [lenE]; omega) | rfl | (simp only [lenE, markR_len]; done) | (simp only [lenE, markR_len]; omega)) only [runE, mapE, listE, initT_5, initT_6, initT_7, initT_8, resV, oneV, binA, unA, reduceCtorEq, Nat.reduceEqDiff, Nat.reduceAdd, Nat.reduceLT, Nat.reduceLeDiff, Nat.reduceMul, Nat.reduceSub, ↓reduceIte, decide_true, decide_false, Bool.true_eq_false, Bool.false_eq_true, Bool.not_true, Bool.not_false, if_true, if_false, and_true, true_and, memE, celE, w64, Nat.zero_add, Nat.add_zero, Nat.mul_one, putL, and_self, ldn]
  exact ⟨y0, a1, rfl, by omega, w1, k1⟩

theorem ext_ofM {m M' : Mem} (hl : m.length ≤ M'.length) (old : ∀ i, i < m.length → M'[i]? = (roM m)[i]?) (new : ∀ (i : Nat) (b : Blk), m.length ≤ i → M'[i]? = some b → b.kd ≠ .ro) : Ext m M' := by
  have e : M' = roM m ++ M'.drop m.length := by
    apply List.ext_getElem?
    intro i
    by_cases hi : i < m.length
    · rw [List.getElem?_append_left (by rw [roM_len]; exact hi), old i hi]
    · rw [List.getElem?_append_right (by rw [roM_len]; omega), List.getElem?_drop, roM_len, Nat.add_sub_cancel' (by omega)]
  refine ⟨M'.drop m.length, e, fun c hc => ?_⟩
  obtain ⟨j, hj, rfl⟩ := List.getElem_of_mem hc
  have hg : M'[m.length + j]? = some (M'.drop m.length)[j] := by
    rw [← List.getElem?_drop, List.getElem?_eq_getElem hj]
  exact new (m.length + j) _ (by omega) hg
theorem Cw.noRoM {id : Nat} {A B : Mem} {lo : Nat} (h : Cw id A B) (hA : ∀ (i : Nat) (b : Blk), lo ≤ i → A[i]? = some b → b.kd ≠ .ro) {cb a : Nat} {l : List Int} (k : CurA B cb l id a) : ∀ (i : Nat) (b : Blk), lo ≤ i → B[i]? = some b → b.kd ≠ .ro := fun i b hi hb => by
  by_cases e : i = id
  · subst e
    obtain ⟨s, h2⟩ := k.box
    rw [h2] at hb
    cases hb
    simp
  · by_cases hl : i < A.length
    · rw [h.old i e hl] at hb; exact hA i b hi hb
    · exact h.new i b (by omega) hb
theorem Ext.cwM {m A B : Mem} {id cb a : Nat} {l : List Int} (hx : Ext m A) (w : Cw id A B) (k : CurA B cb l id a) (hid : m.length ≤ id) : Ext m B := by
  obtain ⟨n0, e0, h0⟩ := hx
  have hl := w.len
  have hlA : m.length ≤ A.length := by rw [e0]; simp [roM_len]
  refine ext_ofM (by omega) (fun i hi => ?_) (w.noRoM (fun i b hi hb => ?_) k)
  · rw [w.old i (by omega) (by omega), e0, List.getElem?_append_left (by rw [roM_len]; exact hi)]
  · rw [e0, List.getElem?_append_right (by rw [roM_len]; exact hi)] at hb
    exact h0 b (List.mem_of_getElem? hb)
theorem Ext.setM {m A : Mem} {r : Nat} {b : Blk} (hx : Ext m A) (hr : m.length ≤ r) (hb : b.kd ≠ .ro) : Ext m (A.set r b) := by
  obtain ⟨n0, e0, h0⟩ := hx
  refine ext_ofM (by rw [List.length_set, e0]; simp [roM_len]) (fun i hi => ?_) (fun i c hi hc => ?_)
  · rw [List.getElem?_set_ne (by omega), e0, List.getElem?_append_left (by rw [roM_len]; exact hi)]
  · by_cases e : r = i
    · subst e
      rcases at_set hc with ⟨hne, _⟩ | ⟨_, hc2, _⟩
      · exact absurd rfl hne
      · rw [← hc2]; exact hb
    · rw [List.getElem?_set_ne e, e0, List.getElem?_append_right (by rw [roM_len]; exact hi)] at hc
      exact h0 c (List.mem_of_getElem? hc)
def AnsMk (m : Mem) (f : Value → Value → Prop) (r : Value) (new : Mem) : Prop :=
  NoRo new ∧ ∃ (p : Mk) (u : Value), f (mkV p u) r ∧ LivesMk m.length (m ++ new) (mkV p u) p
theorem fin_mk {m M : Mem} {p : Mk} {u r : Value} {f : Value → Value → Prop} (hX : Ext m M) (hp : LivesMk m.length M (mkV p u) p) (hf : f (mkV p u) r) : newQ m (AnsMk m f) r M := by
  obtain ⟨n0, rfl, h0⟩ := hX
  refine ⟨n0, rfl, h0, h0, p, u, hf, hp.up (by simp [roM_len]) fun i hi _ => ?_⟩
  rw [List.getElem?_append_right hi, List.getElem?_append_right (by rw [roM_len]; exact hi), roM_len]
theorem ones_mk {M : Mem} {p : Mk} {u : Value} (h : IntsA M u p.w) : onesB (mkC p u) = true := by
  have e : u.oneCell' = true := by simpa [onesB] using h.one []
  simp only [onesB, mkC, List.all_cons, List.all_nil, Bool.and_true, e]
  rfl
def fMCI (x r : Value) : Prop := ∃ (c : Ct) (q : Int), r = .tuple #[x, ctV c, .int .i64 q]
theorem DrawSellerProfit_rc (m : Mem) (cb fl : Nat) (l : List Int) (h : BytesA m cb l) :
    RC Try.prog 6 [.slice (some ⟨cb, 0, none⟩) l.length fl] m (AnsMk m fMCI) := by
  refine rc_of_run mixed ok_spec_DrawSellerProfit (by simp) (go_start _ _ _ ?_)
  simp (config := {implicitDefEqProofs := false, maxDischargeDepth := 20}) (disch := first | omega | (simp only [lenE]; done) | (simp only [lenE]; omega) | rfl | (simp only [lenE, markR_len]; done) | (simp only [lenE, markR_len]; omega)) only [runE, mapE, listE, initT_5, initT_6, initT_7, initT_8, resV, oneV, binA, unA, reduceCtorEq, Nat.reduceEqDiff, Nat.reduceAdd, Nat.reduceLT, Nat.reduceLeDiff, Nat.reduceMul, Nat.reduceSub, ↓reduceIte, decide_true, decide_false, Bool.true_eq_false, Bool.false_eq_true, Bool.not_true, Bool.not_false, if_true, if_false, and_true, true_and, memE, celE, w64, Nat.zero_add, Nat.add_zero, Nat.mul_one, putL, and_self, ldn, c_spec_DrawSellerProfit, r_spec_DrawSellerProfit, bldCur]
  obtain ⟨M0, hM0⟩ : ∃ M0 : Mem, M0 = roM m ++ [⟨.own, 26, [.slice none 0 0, .int .i64 0, .int .i64 0, .int .i64 0]⟩] ++ [⟨.own, 28, [.int .i64 0, .int .i64 0, .int .i64 0]⟩] := ⟨_, rfl⟩
  have hl0 : M0.length = m.length + 2 := by rw [hM0]; simp [roM_len]
  have hx0 : Ext m M0 := by rw [hM0]; exact ((Ext.refl m).one _ _).one _ _
  have hb0 : M0[cb]? = some ⟨.ro, 5, l.map (Value.int .u8)⟩ := by
    have := h.ro
    rw [hM0]; try simp only [List.append_assoc]
    rw [List.getElem?_append_left (List.getElem?_eq_some_iff.1 this).1]; exact this
  have res0 : OwnB M0 (m.length) 26 [.slice none 0 0, .int .i64 0, .int .i64 0, .int .i64 0] := by rw [hM0]; exact ((OwnB.here (by simp [roM_len])).ext _)
  have res1 : OwnB M0 (m.length + 1) 28 [.int .i64 0, .int .i64 0, .int .i64 0] := by rw [hM0]; exact (OwnB.here (by simp [roM_len]))
  try simp only [List.append_assoc, List.cons_append, List.nil_append] at hM0 ⊢
  try rw [← hM0]
  have k0 : CurA (M0 ++ [⟨.own, 59, [.slice (some ⟨cb, 0, none⟩) l.length fl, .int .i64 0, .int .u64 0]⟩]) cb l M0.length 0 :=
    ⟨by rw [List.getElem?_append_left (List.getElem?_eq_some_iff.1 hb0).1]; exact hb0, h.byte, h.few, (fl, 0), by simp⟩
  have hx1 : Ext m (M0 ++ [⟨.own, 59, [.slice (some ⟨cb, 0, none⟩) l.length fl, .int .i64 0, .int .u64 0]⟩]) := hx0.one _ _
  have hl1 : (M0 ++ [(⟨.own, 59, [.slice (some ⟨cb, 0, none⟩) l.length fl, .int .i64 0, .int .u64 0]⟩ : Blk)]).length = m.length + 3 := by simp; omega
  have res0 := res0.ext [(⟨.own, 59, [.slice (some ⟨cb, 0, none⟩) l.length fl, .int .i64 0, .int .u64 0]⟩ : Blk)]
  have res1 := res1.ext [(⟨.own, 59, [.slice (some ⟨cb, 0, none⟩) l.length fl, .int .i64 0, .int .u64 0]⟩ : Blk)]
  obtain ⟨id, hid⟩ : ∃ id, id = m.length + 1 + 1 := ⟨_, rfl⟩
  rw [hl0, ← hid] at k0
  try rw [← hid]
  have hM1 : roM m ++ [⟨.own, 26, [.slice none 0 0, .int .i64 0, .int .i64 0, .int .i64 0]⟩] ++ [⟨.own, 28, [.int .i64 0, .int .i64 0, .int .i64 0]⟩] ++ [(⟨.own, 59, [.slice (some ⟨cb, 0, none⟩) l.length fl, .int .i64 0, .int .u64 0]⟩ : Blk)] = M0 ++ [⟨.own, 59, [.slice (some ⟨cb, 0, none⟩) l.length fl, .int .i64 0, .int .u64 0]⟩] := by rw [hM0]; try simp
  try simp only [List.append_assoc, List.cons_append, List.nil_append] at hM1 ⊢
  try rw [hM1]
  clear hM1
  generalize M0 ++ [(⟨.own, 59, [.slice (some ⟨cb, 0, none⟩) l.length fl, .int .i64 0, .int .u64 0]⟩ : Blk)] = M1 at *
  clear hx0 hM0 hb0
  refine callH_ac (market_ac M1 cb id 0 l k0 (by omega)) ?_
  rintro v M2 ⟨p, u, a2, rfl, ha2, w2, k2, lv2, hw2, hp2⟩
  have hIu : IntsA M2 u p.w := by
    obtain ⟨u2, e2, h2⟩ := lv2.here
    have : u = u2 := by simpa [mkV] using e2
    rw [this]; exact h2
  have on := ones_mk (p := p) (u := u) hIu
  have l2 := w2.len
  have s1 : stA (M2 ++ [⟨.own, 26, [.slice none 0 0, .int .i64 0, .int .i64 0, .int .i64 0]⟩]) M2.length 0 (mkC p u) = some (M2 ++ [⟨.own, 26, mkC p u⟩]) := by
    rw [(OwnB.here rfl).st (by simp) on]
    simp [putL]
  have b3 : OwnB (M2 ++ [⟨.own, 26, mkC p u⟩]) M2.length 26 (mkC p u) := OwnB.here rfl
  have w3 : Cw id M1 (M2 ++ [⟨.own, 26, mkC p u⟩]) := w2.ext (noRo_own noRo_nil)
  have k3 := k2.ext [⟨.own, 26, mkC p u⟩]
  have lv3 : LivesMk M1.length (M2 ++ [⟨.own, 26, mkC p u⟩]) (mkV p u) p := lv2.up (by simp) fun i h1 h2 => List.getElem?_append_left h2
  have l3 : (M2 ++ [(⟨.own, 26, mkC p u⟩ : Blk)]).length = M2.length + 1 := by simp
  simp (config := {implicitDefEqProofs := false, maxDischargeDepth := 20}) (disch := first | omega | (simp only [lenE]; done) | (simp only [lenE]; omega) | rfl | (simp only [lenE, markR_len]; done) | (simp only [lenE, markR_len]; omega)) only [runE, mapE, listE, initT_5, initT_6, initT_7, initT_8, resV, oneV, binA, unA, reduceCtorEq, Nat.reduceEqDiff, Nat.reduceAdd, Nat.reduceLT, Nat.reduceLeDiff, Nat.reduceMul, Nat.reduceSub, ↓reduceIte, decide_true, decide_false, Bool.true_eq_false, Bool.false_eq_true, Bool.not_true, Bool.not_false, if_true, if_false, and_true, true_and, memE, celE, w64, Nat.zero_add, Nat.add_zero, Nat.mul_one, putL, and_self, ldn, stP_aggL, s1, b3.mk4]
  generalize M2 ++ [(⟨.own, 26, mkC p u⟩ : Blk)] = M3 at *
  obtain ⟨mb, hmb⟩ : ∃ b, b = M2.length := ⟨_, rfl⟩
  rw [← hmb] at b3
  try rw [← hmb]
  first | with_reducible refine ⟨?_, ?_⟩ | skip
  all_goals
    refine callH_ac (contract_ac M3 cb id a2 M1.length l p u k3 (by omega) lv3 (by omega) hp2) ?_
    rintro v M4 ⟨c, a4, rfl, ha4, w4, k4⟩
    have w14 := Cw.trans (by omega) w3 w4
    have l4 := w4.len
    have b4 : OwnB M4 mb 26 (mkC p u) := b3.at_ (w4.old _ (by omega) b3.lt)
    have lv4 := lv3.cw (by omega) w4
    try simp (config := {implicitDefEqProofs := false, maxDischargeDepth := 20}) (disch := first | omega | (simp only [lenE]; done) | (simp only [lenE]; omega) | rfl | (simp only [lenE, markR_len]; done) | (simp only [lenE, markR_len]; omega)) only [runE, mapE, listE, initT_5, initT_6, initT_7, initT_8, resV, oneV, binA, unA, reduceCtorEq, Nat.reduceEqDiff, Nat.reduceAdd, Nat.reduceLT, Nat.reduceLeDiff, Nat.reduceMul, Nat.reduceSub, ↓reduceIte, decide_true, decide_false, Bool.true_eq_false, Bool.false_eq_true, Bool.not_true, Bool.not_false, if_true, if_false, and_true, true_and, memE, celE, w64, Nat.zero_add, Nat.add_zero, Nat.mul_one, putL, and_self, ldn, b4.mk4]
    first | with_reducible refine ⟨?_, ?_⟩ | skip
    all_goals
      refine callH_ac (sold_ac M4 cb id a4 l k4 (by omega)) ?_
      rintro v M5 ⟨xq, a5, rfl, ha5, w5, k5⟩
      have w15 := Cw.trans (by omega) w14 w5
      have b5 : OwnB M5 mb 26 (mkC p u) := b4.at_ (w5.old _ (by omega) b4.lt)
      have lvT := lv4.cw (by omega) w5
      have r0 := res0.at_ (w15.old _ (by omega) (by omega))
      have s4 := (r0.st (off := 0) (vs := mkC p u) (by simp) on).trans (show _ = some (M5.set m.length ⟨.own, 26, mkC p u⟩) by simp [putL])
      have g0 := r0.set_self 26 (mkC p u)
      have LT5 := w15.len
      have r1 := (res1.at_ (w15.old _ (by omega) (by omega))).set_ne (b := ⟨.own, 26, mkC p u⟩) (show m.length ≠ m.length + 1 by omega)
      have s5 := (r1.st (off := 0) (vs := ctL c) (by simp) rfl).trans (show _ = some ((M5.set m.length ⟨.own, 26, mkC p u⟩).set (m.length + 1) ⟨.own, 28, ctL c⟩) by simp [putL])
      have g1 := r1.set_self 28 (ctL c)
      have g0' := g0.set_ne (id := m.length + 1) (by omega) ⟨.own, 28, ctL c⟩
      simp (config := {implicitDefEqProofs := false, maxDischargeDepth := 20}) (disch := first | omega | (simp only [lenE]; done) | (simp only [lenE]; omega) | rfl | (simp only [lenE, markR_len]; done) | (simp only [lenE, markR_len]; omega)) only [runE, mapE, listE, initT_5, initT_6, initT_7, initT_8, resV, oneV, binA, unA, reduceCtorEq, Nat.reduceEqDiff, Nat.reduceAdd, Nat.reduceLT, Nat.reduceLeDiff, Nat.reduceMul, Nat.reduceSub, ↓reduceIte, decide_true, decide_false, Bool.true_eq_false, Bool.false_eq_true, Bool.not_true, Bool.not_false, if_true, if_false, and_true, true_and, memE, celE, w64, Nat.zero_add, Nat.add_zero, Nat.mul_one, putL, and_self, ldn, stP_aggL, b5.mk4, ext_2_0, ext_2_1, s4, s5, g0'.rd, g1.rd]
      refine fin_mk (p := p) (u := u) ((((hx1.cwM w15 k5 (by omega)).setM (Nat.le_refl _) (by simp)).setM (by omega) (by simp))) (fun M9 h9 => ?_) ⟨c, xq, rfl⟩
      refine lvT M9 fun i h1 h2 => ?_
      rw [h9 i (by omega) (by rw [List.length_set, List.length_set]; exact h2), List.getElem?_set_ne (by omega), List.getElem?_set_ne (by omega)]
end Go.Proofs.Ytpedjcagaeedjaa.Ab
end
section
namespace Go.Proofs.Ytpedjcagaeedjaa.Ab
open Go Go.RowKit
set_option linter.unusedVariables false
set_option linter.unusedSimpArgs false
theorem rBigM_rc (m : Mem) (cb fl : Nat) (n : Nat) : RC Try.prog 5 [.slice (some ⟨cb, 0, none⟩) n fl] m fun r new => r = .bool (decide (65536 < n)) ∧ new = [] := by
  refine rc_of_run mixed ok_laws_rBig (by simp) (go_start _ _ _ ?_)
  simp (config := {implicitDefEqProofs := false, maxDischargeDepth := 20}) (disch := first | omega | (simp only [lenE]; done) | (simp only [lenE]; omega) | rfl | (simp only [lenE, markR_len]; done) | (simp only [lenE, markR_len]; omega)) only [runE, mapE, listE, initT_5, initT_6, initT_7, initT_8, resV, oneV, binA, unA, reduceCtorEq, Nat.reduceEqDiff, Nat.reduceAdd, Nat.reduceLT, Nat.reduceLeDiff, Nat.reduceMul, Nat.reduceSub, ↓reduceIte, decide_true, decide_false, Bool.true_eq_false, Bool.false_eq_true, Bool.not_true, Bool.not_false, if_true, if_false, and_true, true_and, memE, celE, w64, Nat.zero_add, Nat.add_zero, Nat.mul_one, putL, and_self, ldn, c_laws_rBig, r_laws_rBig, gt_iff_lt]
  refine newQ_nil ⟨?_, rfl⟩
  congr 1
  rw [decide_eq_decide]
  omega
theorem rIntsM_rc (m : Mem) (v u : Value) (l : List Int) (h : IntsA m v l) (h' : IntsA m u l) : RC Try.prog 18 [v, u] m fun r new => r = .bool true ∧ new = [] := by
  refine rc_of_run mixed ok_laws_rInts (by simp) (go_start _ _ _ ?_)
  obtain ⟨e1, e2, e3, e4, -⟩ := h.ro
  obtain ⟨d1, d2, d3, d4, -⟩ := h'.ro
  simp (config := {implicitDefEqProofs := false, maxDischargeDepth := 20}) (disch := first | omega | (simp only [lenE]; done) | (simp only [lenE]; omega) | rfl | (simp only [lenE, markR_len]; done) | (simp only [lenE, markR_len]; omega)) only [runE, mapE, listE, initT_5, initT_6, initT_7, initT_8, resV, oneV, binA, unA, reduceCtorEq, Nat.reduceEqDiff, Nat.reduceAdd, Nat.reduceLT, Nat.reduceLeDiff, Nat.reduceMul, Nat.reduceSub, ↓reduceIte, decide_true, decide_false, Bool.true_eq_false, Bool.false_eq_true, Bool.not_true, Bool.not_false, if_true, if_false, and_true, true_and, memE, celE, w64, Nat.zero_add, Nat.add_zero, Nat.mul_one, putL, and_self, ldn, c_laws_rInts, r_laws_rInts, e1, d1, bne_self_eq_false]
  refine loop_inv mixed (fun s => ∃ k : Nat, k ≤ l.length ∧ s.t 0 = v ∧ s.t 1 = u ∧ s.t 5 = .int .i64 k ∧ s.m = roM m) (fun s => l.length - (intOf (s.t 5)).toNat) ⟨0, by omega, rfl, rfl, rfl, rfl⟩ ?_
  rintro s ⟨k, hk, t0, t1, t5, tm⟩
  by_cases hlt : k < l.length
  · have hlt' : (k : Int) < l.length := by omega
    simp (config := {implicitDefEqProofs := false, maxDischargeDepth := 20}) (disch := first | omega | (simp only [lenE]; done) | (simp only [lenE]; omega) | rfl | (simp only [lenE, markR_len]; done) | (simp only [lenE, markR_len]; omega)) only [runE, mapE, listE, initT_5, initT_6, initT_7, initT_8, resV, oneV, binA, unA, reduceCtorEq, Nat.reduceEqDiff, Nat.reduceAdd, Nat.reduceLT, Nat.reduceLeDiff, Nat.reduceMul, Nat.reduceSub, ↓reduceIte, decide_true, decide_false, Bool.true_eq_false, Bool.false_eq_true, Bool.not_true, Bool.not_false, if_true, if_false, and_true, true_and, memE, celE, w64, Nat.zero_add, Nat.add_zero, Nat.mul_one, putL, and_self, ldn, t0, t1, t5, tm, e1, e3 k hlt, e4 k hlt, d3 k hlt, d4 k hlt, hlt', bne_self_eq_false]
    exact ⟨⟨k + 1, by omega, by simp⟩, by simp [intOf]; omega⟩
  · have hlt' : ¬ ((k : Int) < l.length) := by omega
    simp (config := {implicitDefEqProofs := false, maxDischargeDepth := 20}) (disch := first | omega | (simp only [lenE]; done) | (simp only [lenE]; omega) | rfl | (simp only [lenE, markR_len]; done) | (simp only [lenE, markR_len]; omega)) only [runE, mapE, listE, initT_5, initT_6, initT_7, initT_8, resV, oneV, binA, unA, reduceCtorEq, Nat.reduceEqDiff, Nat.reduceAdd, Nat.reduceLT, Nat.reduceLeDiff, Nat.reduceMul, Nat.reduceSub, ↓reduceIte, decide_true, decide_false, Bool.true_eq_false, Bool.false_eq_true, Bool.not_true, Bool.not_false, if_true, if_false, and_true, true_and, memE, celE, w64, Nat.zero_add, Nat.add_zero, Nat.mul_one, putL, and_self, ldn, t0, t1, t5, tm, e1, hlt']
    exact newQ_nil ⟨rfl, rfl⟩
theorem ae2M (a b : Int) : aeqA true 2 (.agg #[.int .i64 a, .int .i64 b]) (.agg #[.int .i64 a, .int .i64 b]) = some (.bool false) := by
  simp [aeqA, intsEq]
theorem rPairsM_rc (m : Mem) (v u : Value) (L : List (Int × Int)) (h : PairsA m v L) (h' : PairsA m u L) : RC Try.prog 25 [v, u] m (AnsV (.bool true)) := by
  refine rc_of_run mixed ok_laws_rPairs (by simp) (go_start _ _ _ ?_)
  obtain ⟨hb, id, fl, rfl, hc⟩ := h.ro
  obtain ⟨-, id', fl', rfl, hc'⟩ := h'.ro
  simp (config := {implicitDefEqProofs := false, maxDischargeDepth := 20}) (disch := first | omega | (simp only [lenE]; done) | (simp only [lenE]; omega) | rfl | (simp only [lenE, markR_len]; done) | (simp only [lenE, markR_len]; omega)) only [runE, mapE, listE, initT_5, initT_6, initT_7, initT_8, resV, oneV, binA, unA, reduceCtorEq, Nat.reduceEqDiff, Nat.reduceAdd, Nat.reduceLT, Nat.reduceLeDiff, Nat.reduceMul, Nat.reduceSub, ↓reduceIte, decide_true, decide_false, Bool.true_eq_false, Bool.false_eq_true, Bool.not_true, Bool.not_false, if_true, if_false, and_true, true_and, memE, celE, w64, Nat.zero_add, Nat.add_zero, Nat.mul_one, putL, and_self, ldn, c_laws_rPairs, r_laws_rPairs, bne_self_eq_false]
  refine loop_inv mixed (fun s => ∃ (k : Nat), k ≤ L.length ∧ s.m = roM m ∧ s.t 0 = .slice (some ⟨id, 0, none⟩) L.length fl ∧ s.t 1 = .slice (some ⟨id', 0, none⟩) L.length fl' ∧ s.t 5 = .int .i64 k) (fun s => L.length - (intOf (s.t 5)).toNat)
    ⟨0, by omega, rfl, rfl, rfl, rfl⟩ ?_
  rintro s ⟨k, hk, tm, t0, t1, t5⟩
  by_cases hlt : k < L.length
  · have hlt' : (k : Int) < L.length := by omega
    simp (config := {implicitDefEqProofs := false, maxDischargeDepth := 20}) (disch := first | omega | (simp only [lenE]; done) | (simp only [lenE]; omega) | rfl | (simp only [lenE, markR_len]; done) | (simp only [lenE, markR_len]; omega)) only [runE, mapE, listE, initT_5, initT_6, initT_7, initT_8, resV, oneV, binA, unA, reduceCtorEq, Nat.reduceEqDiff, Nat.reduceAdd, Nat.reduceLT, Nat.reduceLeDiff, Nat.reduceMul, Nat.reduceSub, ↓reduceIte, decide_true, decide_false, Bool.true_eq_false, Bool.false_eq_true, Bool.not_true, Bool.not_false, if_true, if_false, and_true, true_and, memE, celE, w64, Nat.zero_add, Nat.add_zero, Nat.mul_one, putL, and_self, ldn, tm, t0, t1, t5, hlt', iadA_in hlt, (hc k hlt).1, (hc k hlt).2, (hc' k hlt).1, (hc' k hlt).2, ae2M]
    refine ⟨⟨k + 1, by omega, by simp⟩, ?_⟩
    simp [intOf]; omega
  · have hlt' : ¬ ((k : Int) < L.length) := by omega
    simp (config := {implicitDefEqProofs := false, maxDischargeDepth := 20}) (disch := first | omega | (simp only [lenE]; done) | (simp only [lenE]; omega) | rfl | (simp only [lenE, markR_len]; done) | (simp only [lenE, markR_len]; omega)) only [runE, mapE, listE, initT_5, initT_6, initT_7, initT_8, resV, oneV, binA, unA, reduceCtorEq, Nat.reduceEqDiff, Nat.reduceAdd, Nat.reduceLT, Nat.reduceLeDiff, Nat.reduceMul, Nat.reduceSub, ↓reduceIte, decide_true, decide_false, Bool.true_eq_false, Bool.false_eq_true, Bool.not_true, Bool.not_false, if_true, if_false, and_true, true_and, memE, celE, w64, Nat.zero_add, Nat.add_zero, Nat.mul_one, putL, and_self, ldn, tm, t0, t1, t5, hlt']
    exact newQ_nil ⟨rfl, noRo_nil⟩
end Go.Proofs.Ytpedjcagaeedjaa.Ab
end
section
namespace Go.Proofs.Ytpedjcagaeedjaa.Ab
open Go Go.RowKit
set_option linter.unusedVariables false
set_option linter.unusedSimpArgs false
theorem goodPlain {k : Mk} (h : GoodM k) {j : Nat} (hj : j < plainN k) : GoodC (plainC (k.make + j)) := by
  have h1 := h.price
  have h2 := h.make
  unfold plainN at hj
  exact ⟨by simp only [plainC]; omega, by simp [plainC], by simp [plainC]⟩
theorem plainN_in {k : Mk} (h : GoodM k) : 1 ≤ plainN k ∧ plainN k ≤ 100 ∧ (plainN k : Int) = k.price - k.make + 1 := by
  have h1 := h.price
  have h2 := h.make
  unfold plainN
  omega
theorem OwnR.set_neM {M : Mem} {id id' : Nat} {l : List Int} (h : OwnR M id' l) (hne : id ≠ id') (b : Blk) : OwnR (M.set id b) id' l := by
  unfold OwnR; rw [List.getElem?_set_ne hne]; exact h
def AnsTwoR (m : Mem) (l1 l2 : List Int) (r : Value) (new : Mem) : Prop :=
  NoRo new ∧ ∃ id1 id2, r = .tuple #[.slice (some ⟨id1, 0, none⟩) l1.length 1, .slice (some ⟨id2, 0, none⟩) l2.length 1] ∧ m.length ≤ id1 ∧ m.length ≤ id2 ∧ OwnR (m ++ new) id1 l1 ∧ OwnR (m ++ new) id2 l2
theorem ext_twoR {m M : Mem} {l1 l2 : List Int} {id1 id2 n1 n2 : Nat} (h : Ext m M) (o1 : OwnR M id1 l1) (o2 : OwnR M id2 l2) (h1 : m.length ≤ id1) (h2 : m.length ≤ id2) (e1 : n1 = l1.length) (e2 : n2 = l2.length) :
    newQ m (AnsTwoR m l1 l2) (.tuple #[.slice (some ⟨id1, 0, none⟩) n1 1, .slice (some ⟨id2, 0, none⟩) n2 1]) M := by
  subst e1 e2
  obtain ⟨n0, rfl, h0⟩ := h
  have key : ∀ (id : Nat) (l : List Int), m.length ≤ id → OwnR (roM m ++ n0) id l → OwnR (m ++ n0) id l := fun id l hid ho => by
    unfold OwnR at ho ⊢
    rw [List.getElem?_append_right (by rw [roM_len]; exact hid), roM_len] at ho
    rw [List.getElem?_append_right hid]; exact ho
  exact ⟨n0, rfl, h0, h0, id1, id2, rfl, h1, h2, key _ _ h1 o1, key _ _ h2 o2⟩
theorem l10Plain_rc (m : Mem) (p : Int) : RC Try.prog 92 [.int .i64 p] m (AnsV (ctV (plainC p))) := by
  refine rc_of_run mixed ok_spec_l10Plain (by simp) (go_start _ _ _ ?_)
  simp (config := {implicitDefEqProofs := false, maxDischargeDepth := 20}) (disch := first | omega | (simp only [lenE]; done) | (simp only [lenE]; omega) | rfl | (simp only [lenE, markR_len]; done) | (simp only [lenE, markR_len]; omega)) only [runE, mapE, listE, initT_5, initT_6, initT_7, initT_8, resV, oneV, binA, unA, reduceCtorEq, Nat.reduceEqDiff, Nat.reduceAdd, Nat.reduceLT, Nat.reduceLeDiff, Nat.reduceMul, Nat.reduceSub, ↓reduceIte, decide_true, decide_false, Bool.true_eq_false, Bool.false_eq_true, Bool.not_true, Bool.not_false, if_true, if_false, and_true, true_and, memE, celE, w64, Nat.zero_add, Nat.add_zero, Nat.mul_one, putL, and_self, ldn, c_spec_l10Plain, r_spec_l10Plain, bld_ct02]
  try simp only [List.append_assoc, List.cons_append, List.nil_append, List.append_nil]
  exact ⟨_, rfl, by (repeat (first | exact noRo_nil | assumption | apply noRo_own | apply noRo_dead | apply noRo_app)), rfl, by (repeat (first | exact noRo_nil | assumption | apply noRo_own | apply noRo_dead | apply noRo_app))⟩
theorem ext_pairsM {m M : Mem} {L : List (Int × Int)} {id n : Nat} {e : TypeId} {f : Value → Value} (h : Ext m M) (ho : OwnB M id e (pairsC L)) (hid : m.length ≤ id) (hn : n = L.length) (hl : L.length ≤ 1048576) :
    newQ m (AnsO m (PairsO e L) f) (f (.slice (some ⟨id, 0, none⟩) n 2)) M := by
  subst hn
  exact ext_ansO h fun M' hM => ⟨hl, id, 2, rfl, hid, ho.lt, ho.at_ (hM _ hid ho.lt)⟩
theorem bld_pairM (a b : Int) : bldA [.int .i64 0, .int .i64 0] [(0, 1, .int .i64 a), (1, 1, .int .i64 b)] = some (.agg #[.int .i64 a, .int .i64 b]) := rfl
theorem pairsC_sM (L : List (Int × Int)) (p : Int × Int) : pairsC (L ++ [p]) = pairsC L ++ [.int .i64 p.1, .int .i64 p.2] := by simp [pairsC, pairC]
theorem l10Plains_rc (m : Mem) (v : Value) (k : Mk) (h : MkA m v k) (hg : GoodM k) :
    RC Try.prog 68 [v] m (AnsO m (PairsO 43 (plainsL k (plainN k))) id) := by
  refine rc_of_run mixed ok_spec_l10Plains (by simp) (go_start _ _ _ ?_)
  obtain ⟨u, rfl, hu⟩ := h.ro
  have pn := plainN_in hg
  have hp := hg.price
  have hm := hg.make
  try simp (config := {implicitDefEqProofs := false, maxDischargeDepth := 20}) (disch := first | omega | (simp only [lenE]; done) | (simp only [lenE]; omega) | rfl | (simp only [lenE, markR_len]; done) | (simp only [lenE, markR_len]; omega)) only [runE, mapE, listE, initT_5, initT_6, initT_7, initT_8, resV, oneV, binA, unA, reduceCtorEq, Nat.reduceEqDiff, Nat.reduceAdd, Nat.reduceLT, Nat.reduceLeDiff, Nat.reduceMul, Nat.reduceSub, ↓reduceIte, decide_true, decide_false, Bool.true_eq_false, Bool.false_eq_true, Bool.not_true, Bool.not_false, if_true, if_false, and_true, true_and, memE, celE, w64, Nat.zero_add, Nat.add_zero, Nat.mul_one, putL, and_self, ldn, c_spec_l10Plains, r_spec_l10Plains, bsl_no]
  obtain ⟨E, hE⟩ : ∃ M', M' = roM m ++ [⟨.own, 26, [u, .int .i64 k.price, .int .i64 k.make, .int .i64 k.left]⟩] ++ [⟨.own, 43, []⟩] := ⟨_, rfl⟩
  rw [← hE]
  have hX : Ext m E := by rw [hE]; exact (((Ext.refl m).one _ _).one _ _)
  have LE : E.length = m.length + 2 := by rw [hE]; simp [roM_len]
  have oM : OwnB E (m.length) 26 [u, .int .i64 k.price, .int .i64 k.make, .int .i64 k.left] := by rw [hE]; exact ((OwnB.here (by simp [roM_len])).ext _)
  have oP : OwnB E (m.length + 1) 43 [] := by rw [hE]; exact (OwnB.here (by simp [roM_len]))
  clear hE
  try simp (config := {implicitDefEqProofs := false, maxDischargeDepth := 20}) (disch := first | omega | (simp only [lenE]; done) | (simp only [lenE]; omega) | rfl | (simp only [lenE, markR_len]; done) | (simp only [lenE, markR_len]; omega)) only [runE, mapE, listE, initT_5, initT_6, initT_7, initT_8, resV, oneV, binA, unA, reduceCtorEq, Nat.reduceEqDiff, Nat.reduceAdd, Nat.reduceLT, Nat.reduceLeDiff, Nat.reduceMul, Nat.reduceSub, ↓reduceIte, decide_true, decide_false, Bool.true_eq_false, Bool.false_eq_true, Bool.not_true, Bool.not_false, if_true, if_false, and_true, true_and, memE, celE, w64, Nat.zero_add, Nat.add_zero, Nat.mul_one, putL, and_self, ldn, oM.mk4]
  refine loop_inv mixed (fun s => ∃ (j : Nat) (M : Mem) (id : Nat), j ≤ plainN k ∧ s.m = M ∧ Ext m M ∧ OwnB M m.length 26 [u, .int .i64 k.price, .int .i64 k.make, .int .i64 k.left] ∧ m.length + 1 ≤ id ∧ OwnB M id 43 (pairsC (plainsL k j)) ∧ s.t 1 = .pointer (some ⟨m.length, 0, none⟩) ∧ s.t 3 = .slice (some ⟨id, 0, none⟩) j 2 ∧ s.t 4 = .int .i64 (k.make + (j : Int))) (fun s => (k.price + 1 - intOf (s.t 4)).toNat)
    ⟨0, _, m.length + 1, by omega, rfl, hX, oM, by omega, oP, rfl, rfl, by simp only [put_t, put_t', put_m, putT_t, putT_t', putT_m, init_t, init_m, initT_0, initT_1, initT_2, initT_3, initT_4, initT_5, initT_6, initT_7, initT_8, Nat.reduceEqDiff, ↓reduceIte]; simp⟩ ?_
  rintro s ⟨j, M, id, hj, tm, hX, oM, hid, ho, t1, t3, t4⟩
  by_cases hlt : j < plainN k
  · have hlt' : k.make + (j : Int) ≤ k.price := by omega
    have hc := goodPlain hg hlt
    have hs8 := selO_le k (plainC (k.make + j))
    simp (config := {implicitDefEqProofs := false, maxDischargeDepth := 20}) (disch := first | omega | (simp only [lenE]; done) | (simp only [lenE]; omega) | rfl | (simp only [lenE, markR_len]; done) | (simp only [lenE, markR_len]; omega)) only [runE, mapE, listE, initT_5, initT_6, initT_7, initT_8, resV, oneV, binA, unA, reduceCtorEq, Nat.reduceEqDiff, Nat.reduceAdd, Nat.reduceLT, Nat.reduceLeDiff, Nat.reduceMul, Nat.reduceSub, ↓reduceIte, decide_true, decide_false, Bool.true_eq_false, Bool.false_eq_true, Bool.not_true, Bool.not_false, if_true, if_false, and_true, true_and, memE, celE, w64, Nat.zero_add, Nat.add_zero, Nat.mul_one, putL, and_self, ldn, tm, t1, t3, t4, oM.mk4, hlt']
    first | refine callH_rc (l10Plain_rc _ _) ?_ | refine rcallH_rc (l10Plain_rc _ _) ?_
    rintro r n1 ⟨rfl, nrn1⟩
    simp (config := {implicitDefEqProofs := false, maxDischargeDepth := 20}) (disch := first | omega | (simp only [lenE]; done) | (simp only [lenE]; omega) | rfl | (simp only [lenE, markR_len]; done) | (simp only [lenE, markR_len]; omega)) only [runE, mapE, listE, initT_5, initT_6, initT_7, initT_8, resV, oneV, binA, unA, reduceCtorEq, Nat.reduceEqDiff, Nat.reduceAdd, Nat.reduceLT, Nat.reduceLeDiff, Nat.reduceMul, Nat.reduceSub, ↓reduceIte, decide_true, decide_false, Bool.true_eq_false, Bool.false_eq_true, Bool.not_true, Bool.not_false, if_true, if_false, and_true, true_and, memE, celE, w64, Nat.zero_add, Nat.add_zero, Nat.mul_one, putL, and_self, ldn, tm, t1, t3, t4, (oM.ext n1).mk4]
    first | refine callH_rc (l10Sold_rc _ _ k (plainC (k.make + j)) ⟨u, rfl, (hX.app nrn1).ints hu⟩ hg hc) ?_ | refine rcallH_rc (l10Sold_rc _ _ k (plainC (k.make + j)) ⟨u, rfl, (hX.app nrn1).ints hu⟩ hg hc) ?_
    rintro r n2 ⟨rfl, nrn2⟩
    obtain ⟨M1, hM1⟩ : ∃ M', M' = M ++ n1 ++ n2 := ⟨_, rfl⟩
    rw [← hM1]
    have hX1 : Ext m M1 := by rw [hM1]; exact (hX.app nrn1).app nrn2
    have oM1 : OwnB M1 m.length 26 [u, .int .i64 k.price, .int .i64 k.make, .int .i64 k.left] := by rw [hM1]; exact (oM.ext n1).ext n2
    have ho1 : OwnB M1 id 43 (pairsC (plainsL k j)) := by rw [hM1]; exact (ho.ext n1).ext n2
    clear hM1
    simp (config := {implicitDefEqProofs := false, maxDischargeDepth := 20}) (disch := first | omega | (simp only [lenE]; done) | (simp only [lenE]; omega) | rfl | (simp only [lenE, markR_len]; done) | (simp only [lenE, markR_len]; omega)) only [runE, mapE, listE, initT_5, initT_6, initT_7, initT_8, resV, oneV, binA, unA, reduceCtorEq, Nat.reduceEqDiff, Nat.reduceAdd, Nat.reduceLT, Nat.reduceLeDiff, Nat.reduceMul, Nat.reduceSub, ↓reduceIte, decide_true, decide_false, Bool.true_eq_false, Bool.false_eq_true, Bool.not_true, Bool.not_false, if_true, if_false, and_true, true_and, memE, celE, w64, Nat.zero_add, Nat.add_zero, Nat.mul_one, putL, and_self, ldn, tm, t1, t3, t4, oM1.mk4]
    first | refine callH_rc (l10Plain_rc _ _) ?_ | refine rcallH_rc (l10Plain_rc _ _) ?_
    rintro r n3 ⟨rfl, nrn3⟩
    simp (config := {implicitDefEqProofs := false, maxDischargeDepth := 20}) (disch := first | omega | (simp only [lenE]; done) | (simp only [lenE]; omega) | rfl | (simp only [lenE, markR_len]; done) | (simp only [lenE, markR_len]; omega)) only [runE, mapE, listE, initT_5, initT_6, initT_7, initT_8, resV, oneV, binA, unA, reduceCtorEq, Nat.reduceEqDiff, Nat.reduceAdd, Nat.reduceLT, Nat.reduceLeDiff, Nat.reduceMul, Nat.reduceSub, ↓reduceIte, decide_true, decide_false, Bool.true_eq_false, Bool.false_eq_true, Bool.not_true, Bool.not_false, if_true, if_false, and_true, true_and, memE, celE, w64, Nat.zero_add, Nat.add_zero, Nat.mul_one, putL, and_self, ldn, tm, t1, t3, t4, oM1.mk4, (oM1.ext n3).mk4]
    first | refine callH_rc (l10Maker_rc _ _ k (plainC (k.make + j)) (selO k (plainC (k.make + j))) ⟨u, rfl, (hX1.app nrn3).ints hu⟩ hg hc hs8) ?_ | refine rcallH_rc (l10Maker_rc _ _ k (plainC (k.make + j)) (selO k (plainC (k.make + j))) ⟨u, rfl, (hX1.app nrn3).ints hu⟩ hg hc hs8) ?_
    rintro r n4 ⟨rfl, nrn4⟩
    obtain ⟨M2, hM2⟩ : ∃ M', M' = M1 ++ n3 ++ n4 := ⟨_, rfl⟩
    rw [← hM2]
    have hX2 : Ext m M2 := by rw [hM2]; exact (hX1.app nrn3).app nrn4
    have oM2 : OwnB M2 m.length 26 [u, .int .i64 k.price, .int .i64 k.make, .int .i64 k.left] := by rw [hM2]; exact (oM1.ext n3).ext n4
    have ho2 : OwnB M2 id 43 (pairsC (plainsL k j)) := by rw [hM2]; exact (ho1.ext n3).ext n4
    clear hM2
    have happ := app_back (e := 43) (sz := 2) (byt := 16) (n := j) (ys := [.int .i64 (selO k (plainC (k.make + j)) : Int), .int .i64 (makP k (plainC (k.make + j)) (selO k (plainC (k.make + j))))]) ho2 rfl (by rw [pairsC_len, plainsL_len]) rfl rfl (by omega) (by omega)
    simp (config := {implicitDefEqProofs := false, maxDischargeDepth := 20}) (disch := first | omega | (simp only [lenE]; done) | (simp only [lenE]; omega) | rfl | (simp only [lenE, markR_len]; done) | (simp only [lenE, markR_len]; omega)) only [runE, mapE, listE, initT_5, initT_6, initT_7, initT_8, resV, oneV, binA, unA, reduceCtorEq, Nat.reduceEqDiff, Nat.reduceAdd, Nat.reduceLT, Nat.reduceLeDiff, Nat.reduceMul, Nat.reduceSub, ↓reduceIte, decide_true, decide_false, Bool.true_eq_false, Bool.false_eq_true, Bool.not_true, Bool.not_false, if_true, if_false, and_true, true_and, memE, celE, w64, Nat.zero_add, Nat.add_zero, Nat.mul_one, putL, and_self, ldn, tm, t1, t3, t4, bld_pairM, bsl_pair, happ]
    have hidl := ho2.lt
    have hl2 := hX2.len
    refine ⟨⟨j + 1, _, M2.length + 1, by omega, rfl, ((hX2.dead (by omega)).one _ _).one _ _, oM2.at_ (same_gen (by omega) hidl), by omega, ?_, rfl, by push_cast; congr 1; omega⟩, ?_⟩
    · rw [plainsL_s, pairsC_sM]
      exact OwnB.here (by simp)
    · simp [intOf]; omega
  · have hlt' : ¬ (k.make + (j : Int) ≤ k.price) := by omega
    obtain rfl : j = plainN k := by omega
    simp (config := {implicitDefEqProofs := false, maxDischargeDepth := 20}) (disch := first | omega | (simp only [lenE]; done) | (simp only [lenE]; omega) | rfl | (simp only [lenE, markR_len]; done) | (simp only [lenE, markR_len]; omega)) only [runE, mapE, listE, initT_5, initT_6, initT_7, initT_8, resV, oneV, binA, unA, reduceCtorEq, Nat.reduceEqDiff, Nat.reduceAdd, Nat.reduceLT, Nat.reduceLeDiff, Nat.reduceMul, Nat.reduceSub, ↓reduceIte, decide_true, decide_false, Bool.true_eq_false, Bool.false_eq_true, Bool.not_true, Bool.not_false, if_true, if_false, and_true, true_and, memE, celE, w64, Nat.zero_add, Nat.add_zero, Nat.mul_one, putL, and_self, ldn, tm, t1, t3, t4, oM.mk4, hlt']
    exact ext_pairsM (f := _root_.id) hX ho (by omega) (by rw [plainsL_len]) (by rw [plainsL_len]; omega)
theorem plainContracts_rc (m : Mem) (v : Value) (k : Mk) (h : MkA m v k) (hg : GoodM k) :
    RC Try.prog 67 [v] m (AnsTwoR m (fL (fun (i : Nat) => ((selO k (plainC (k.make + i)) : Nat) : Int)) (plainN k)) (fL (fun (i : Nat) => makP k (plainC (k.make + i)) (selO k (plainC (k.make + i)))) (plainN k))) := by
  refine rc_of_run mixed ok_impl_plainContracts (by simp) (go_start _ _ _ ?_)
  obtain ⟨u, rfl, hu⟩ := h.ro
  have pn := plainN_in hg
  have hp := hg.price
  have hm := hg.make
  try simp (config := {implicitDefEqProofs := false, maxDischargeDepth := 20}) (disch := first | omega | (simp only [lenE]; done) | (simp only [lenE]; omega) | rfl | (simp only [lenE, markR_len]; done) | (simp only [lenE, markR_len]; omega)) only [runE, mapE, listE, initT_5, initT_6, initT_7, initT_8, resV, oneV, binA, unA, reduceCtorEq, Nat.reduceEqDiff, Nat.reduceAdd, Nat.reduceLT, Nat.reduceLeDiff, Nat.reduceMul, Nat.reduceSub, ↓reduceIte, decide_true, decide_false, Bool.true_eq_false, Bool.false_eq_true, Bool.not_true, Bool.not_false, if_true, if_false, and_true, true_and, memE, celE, w64, Nat.zero_add, Nat.add_zero, Nat.mul_one, putL, and_self, ldn, c_impl_plainContracts, r_impl_plainContracts, bsl_none]
  obtain ⟨E, hE⟩ : ∃ M', M' = roM m ++ [⟨.own, 26, [u, .int .i64 k.price, .int .i64 k.make, .int .i64 k.left]⟩] ++ [⟨.own, 3, []⟩] ++ [⟨.own, 3, []⟩] := ⟨_, rfl⟩
  rw [← hE]
  have hX : Ext m E := by rw [hE]; exact ((((Ext.refl m).one _ _).one _ _).one _ _)
  have LE : E.length = m.length + 3 := by rw [hE]; simp [roM_len]
  have oM : OwnB E (m.length) 26 [u, .int .i64 k.price, .int .i64 k.make, .int .i64 k.left] := by rw [hE]; exact (((OwnB.here (by simp [roM_len])).ext _).ext _)
  have oA : OwnB E (m.length + 1) 3 [] := by rw [hE]; exact ((OwnB.here (by simp [roM_len])).ext _)
  have oB : OwnB E (m.length + 1 + 1) 3 [] := by rw [hE]; exact (OwnB.here (by simp [roM_len]))
  clear hE
  try simp (config := {implicitDefEqProofs := false, maxDischargeDepth := 20}) (disch := first | omega | (simp only [lenE]; done) | (simp only [lenE]; omega) | rfl | (simp only [lenE, markR_len]; done) | (simp only [lenE, markR_len]; omega)) only [runE, mapE, listE, initT_5, initT_6, initT_7, initT_8, resV, oneV, binA, unA, reduceCtorEq, Nat.reduceEqDiff, Nat.reduceAdd, Nat.reduceLT, Nat.reduceLeDiff, Nat.reduceMul, Nat.reduceSub, ↓reduceIte, decide_true, decide_false, Bool.true_eq_false, Bool.false_eq_true, Bool.not_true, Bool.not_false, if_true, if_false, and_true, true_and, memE, celE, w64, Nat.zero_add, Nat.add_zero, Nat.mul_one, putL, and_self, ldn, oM.mk4]
  obtain ⟨f1, hf1⟩ : ∃ f : Nat → Int, f = (fun (i : Nat) => ((selO k (plainC (k.make + i)) : Nat) : Int)) := ⟨_, rfl⟩
  obtain ⟨f2, hf2⟩ : ∃ f : Nat → Int, f = (fun (i : Nat) => makP k (plainC (k.make + i)) (selO k (plainC (k.make + i)))) := ⟨_, rfl⟩
  rw [← hf1, ← hf2]
  refine loop_inv mixed (fun s => ∃ (j : Nat) (M : Mem) (a b : Nat), j ≤ plainN k ∧ s.m = M ∧ Ext m M ∧ OwnB M m.length 26 [u, .int .i64 k.price, .int .i64 k.make, .int .i64 k.left] ∧ m.length + 1 ≤ a ∧ m.length + 1 ≤ b ∧ a ≠ b ∧ OwnR M a (fL f1 j) ∧ OwnR M b (fL f2 j) ∧ s.t 1 = .pointer (some ⟨m.length, 0, none⟩) ∧ s.t 4 = .slice (some ⟨a, 0, none⟩) j 1 ∧ s.t 5 = .slice (some ⟨b, 0, none⟩) j 1 ∧ s.t 6 = .int .i64 (k.make + (j : Int))) (fun s => (k.price + 1 - intOf (s.t 6)).toNat)
    ⟨0, _, m.length + 1, m.length + 1 + 1, by omega, rfl, hX, oM, by omega, by omega, by omega, oA, oB, rfl, rfl, rfl, by simp only [put_t, put_t', put_m, putT_t, putT_t', putT_m, init_t, init_m, initT_0, initT_1, initT_2, initT_3, initT_4, initT_5, initT_6, initT_7, initT_8, Nat.reduceEqDiff, ↓reduceIte]; simp⟩ ?_
  rintro s ⟨j, M, a, b, hj, tm, hX, oM, ha, hb, hab, oA, oB, t1, t4, t5, t6⟩
  by_cases hlt : j < plainN k
  · have hlt' : k.make + (j : Int) ≤ k.price := by omega
    have hc := goodPlain hg hlt
    have hs8 := selO_le k (plainC (k.make + j))
    simp (config := {implicitDefEqProofs := false, maxDischargeDepth := 20}) (disch := first | omega | (simp only [lenE]; done) | (simp only [lenE]; omega) | rfl | (simp only [lenE, markR_len]; done) | (simp only [lenE, markR_len]; omega)) only [runE, mapE, listE, initT_5, initT_6, initT_7, initT_8, resV, oneV, binA, unA, reduceCtorEq, Nat.reduceEqDiff, Nat.reduceAdd, Nat.reduceLT, Nat.reduceLeDiff, Nat.reduceMul, Nat.reduceSub, ↓reduceIte, decide_true, decide_false, Bool.true_eq_false, Bool.false_eq_true, Bool.not_true, Bool.not_false, if_true, if_false, and_true, true_and, memE, celE, w64, Nat.zero_add, Nat.add_zero, Nat.mul_one, putL, and_self, ldn, tm, t1, t4, t5, t6, oM.mk4, hlt', bld_ct02]
    obtain ⟨M1, hM1⟩ : ∃ M', M' = M ++ [⟨.own, 28, [.int .i64 (k.make + (j : Int)), .int .i64 0, .int .i64 100]⟩] := ⟨_, rfl⟩
    try rw [← hM1]
    have hX1 : Ext m M1 := by rw [hM1]; exact hX.one _ _
    have oM1 : OwnB M1 m.length 26 [u, .int .i64 k.price, .int .i64 k.make, .int .i64 k.left] := by rw [hM1]; exact oM.ext _
    have oC : OwnB M1 M.length 28 [.int .i64 (k.make + (j : Int)), .int .i64 0, .int .i64 100] := by rw [hM1]; exact OwnB.here rfl
    have oA1 : OwnR M1 a (fL f1 j) := by rw [hM1]; exact oA.ext _
    have oB1 : OwnR M1 b (fL f2 j) := by rw [hM1]; exact oB.ext _
    clear hM1
    try simp (config := {implicitDefEqProofs := false, maxDischargeDepth := 20}) (disch := first | omega | (simp only [lenE]; done) | (simp only [lenE]; omega) | rfl | (simp only [lenE, markR_len]; done) | (simp only [lenE, markR_len]; omega)) only [runE, mapE, listE, initT_5, initT_6, initT_7, initT_8, resV, oneV, binA, unA, reduceCtorEq, Nat.reduceEqDiff, Nat.reduceAdd, Nat.reduceLT, Nat.reduceLeDiff, Nat.reduceMul, Nat.reduceSub, ↓reduceIte, decide_true, decide_false, Bool.true_eq_false, Bool.false_eq_true, Bool.not_true, Bool.not_false, if_true, if_false, and_true, true_and, memE, celE, w64, Nat.zero_add, Nat.add_zero, Nat.mul_one, putL, and_self, ldn, tm, t1, t4, t5, t6, oM1.mk4, oC.mk3]
    first | refine callH_rc (sellerOrder_rc _ _ k (plainC (k.make + j)) ⟨u, rfl, hX1.ints hu⟩ hg hc) ?_ | refine rcallH_rc (sellerOrder_rc _ _ k (plainC (k.make + j)) ⟨u, rfl, hX1.ints hu⟩ hg hc) ?_
    rintro r n2 ⟨rfl, nrn2⟩
    simp (config := {implicitDefEqProofs := false, maxDischargeDepth := 20}) (disch := first | omega | (simp only [lenE]; done) | (simp only [lenE]; omega) | rfl | (simp only [lenE, markR_len]; done) | (simp only [lenE, markR_len]; omega)) only [runE, mapE, listE, initT_5, initT_6, initT_7, initT_8, resV, oneV, binA, unA, reduceCtorEq, Nat.reduceEqDiff, Nat.reduceAdd, Nat.reduceLT, Nat.reduceLeDiff, Nat.reduceMul, Nat.reduceSub, ↓reduceIte, decide_true, decide_false, Bool.true_eq_false, Bool.false_eq_true, Bool.not_true, Bool.not_false, if_true, if_false, and_true, true_and, memE, celE, w64, Nat.zero_add, Nat.add_zero, Nat.mul_one, putL, and_self, ldn, tm, t1, t4, t5, t6, (oM1.ext n2).mk4, (oC.ext n2).mk3]
    first | refine callH_rc (profitsOf_rc _ _ k (plainC (k.make + j)) (selO k (plainC (k.make + j))) ⟨u, rfl, (hX1.app nrn2).ints hu⟩ hg hc hs8) ?_ | refine rcallH_rc (profitsOf_rc _ _ k (plainC (k.make + j)) (selO k (plainC (k.make + j))) ⟨u, rfl, (hX1.app nrn2).ints hu⟩ hg hc hs8) ?_
    rintro r n3 ⟨rfl, nrn3⟩
    obtain ⟨M2, hM2⟩ : ∃ M', M' = M1 ++ n2 ++ n3 := ⟨_, rfl⟩
    rw [← hM2]
    have hX2 : Ext m M2 := by rw [hM2]; exact (hX1.app nrn2).app nrn3
    have oM2 : OwnB M2 m.length 26 [u, .int .i64 k.price, .int .i64 k.make, .int .i64 k.left] := by rw [hM2]; exact (oM1.ext n2).ext n3
    have oA2 : OwnR M2 a (fL f1 j) := by rw [hM2]; exact (oA1.ext n2).ext n3
    have oB2 : OwnR M2 b (fL f2 j) := by rw [hM2]; exact (oB1.ext n2).ext n3
    clear hM2
    have e1 : f1 j = (selO k (plainC (k.make + j)) : Int) := by rw [hf1]
    have e2 : f2 j = makP k (plainC (k.make + j)) (selO k (plainC (k.make + j))) := by rw [hf2]
    have happ := app_num (x := f1 j) (id2 := M2.length) (n := j) oA2 (by rw [fL_len]; omega) rfl (by rw [fL_len])
    try rw [← e1, ← e2]
    simp (config := {implicitDefEqProofs := false, maxDischargeDepth := 20}) (disch := first | omega | (simp only [lenE]; done) | (simp only [lenE]; omega) | rfl | (simp only [lenE, markR_len]; done) | (simp only [lenE, markR_len]; omega)) only [runE, mapE, listE, initT_5, initT_6, initT_7, initT_8, resV, oneV, binA, unA, reduceCtorEq, Nat.reduceEqDiff, Nat.reduceAdd, Nat.reduceLT, Nat.reduceLeDiff, Nat.reduceMul, Nat.reduceSub, ↓reduceIte, decide_true, decide_false, Bool.true_eq_false, Bool.false_eq_true, Bool.not_true, Bool.not_false, if_true, if_false, and_true, true_and, memE, celE, w64, Nat.zero_add, Nat.add_zero, Nat.mul_one, putL, and_self, ldn, t1, t4, t5, t6, ext_2_0, ext_2_1, ← e1, ← e2, bsl_one, happ]
    obtain ⟨M3, hM3⟩ : ∃ M', M' = M2.set a deadB ++ [⟨.own, 3, [.int .i64 (f1 j)]⟩] ++ [⟨.own, 3, (fL f1 j ++ [f1 j]).map (Value.int .i64)⟩] := ⟨_, rfl⟩
    have hal := oA2.lt
    have hbl := oB2.lt
    have hl2 := hX2.len
    have hX3 : Ext m M3 := by rw [hM3]; exact ((hX2.dead (by omega)).one _ _).one _ _
    have LM3 : M3.length = M2.length + 1 + 1 := by rw [hM3]; simp
    have oM3 : OwnB M3 m.length 26 [u, .int .i64 k.price, .int .i64 k.make, .int .i64 k.left] := by rw [hM3]; exact oM2.at_ (same_gen (by omega) hal)
    have oB3 : OwnR M3 b (fL f2 j) := by rw [hM3]; exact ((oB2.set_neM (by omega) _).ext _).ext _
    have oA3 : OwnR M3 (M2.length + 1) (fL f1 (j + 1)) := by rw [hM3, fL_s]; exact OwnB.here (by simp)
    have happ3 := app_num (x := f2 j) (id2 := M2.length + 1 + 1) (n := j) oB3 (by rw [fL_len]; omega) LM3.symm (by rw [fL_len])
    try rw [← hM3]
    simp (config := {implicitDefEqProofs := false, maxDischargeDepth := 20}) (disch := first | omega | (simp only [lenE]; done) | (simp only [lenE]; omega) | rfl | (simp only [lenE, markR_len]; done) | (simp only [lenE, markR_len]; omega)) only [runE, mapE, listE, initT_5, initT_6, initT_7, initT_8, resV, oneV, binA, unA, reduceCtorEq, Nat.reduceEqDiff, Nat.reduceAdd, Nat.reduceLT, Nat.reduceLeDiff, Nat.reduceMul, Nat.reduceSub, ↓reduceIte, decide_true, decide_false, Bool.true_eq_false, Bool.false_eq_true, Bool.not_true, Bool.not_false, if_true, if_false, and_true, true_and, memE, celE, w64, Nat.zero_add, Nat.add_zero, Nat.mul_one, putL, and_self, ldn, t1, t4, t5, t6, ext_2_0, ext_2_1, LM3, bsl_one, happ3]
    have hb3 := oB3.lt
    refine ⟨⟨j + 1, _, M2.length + 1, M2.length + 1 + 1 + 1, by omega, rfl, ((hX3.dead (by omega)).one _ _).one _ _, oM3.at_ (same_gen (by omega) hb3), by omega, by omega, by omega, ?_, ?_, rfl, rfl, by push_cast; congr 1; omega⟩, ?_⟩
    · exact ((oA3.set_neM (by omega) _).ext _).ext _
    · rw [fL_s]; exact OwnB.here (by simp [LM3])
    · simp [intOf]; omega
  · have hlt' : ¬ (k.make + (j : Int) ≤ k.price) := by omega
    obtain rfl : j = plainN k := by omega
    simp (config := {implicitDefEqProofs := false, maxDischargeDepth := 20}) (disch := first | omega | (simp only [lenE]; done) | (simp only [lenE]; omega) | rfl | (simp only [lenE, markR_len]; done) | (simp only [lenE, markR_len]; omega)) only [runE, mapE, listE, initT_5, initT_6, initT_7, initT_8, resV, oneV, binA, unA, reduceCtorEq, Nat.reduceEqDiff, Nat.reduceAdd, Nat.reduceLT, Nat.reduceLeDiff, Nat.reduceMul, Nat.reduceSub, ↓reduceIte, decide_true, decide_false, Bool.true_eq_false, Bool.false_eq_true, Bool.not_true, Bool.not_false, if_true, if_false, and_true, true_and, memE, celE, w64, Nat.zero_add, Nat.add_zero, Nat.mul_one, putL, and_self, ldn, tm, t1, t4, t5, t6, oM.mk4, hlt']
    exact ext_twoR hX oA oB (by omega) (by omega) (by rw [fL_len]) (by rw [fL_len])
end Go.Proofs.Ytpedjcagaeedjaa.Ab
end
section
namespace Go.Proofs.Ytpedjcagaeedjaa.Ab
open Go Go.RowKit
set_option linter.unusedVariables false
set_option linter.unusedSimpArgs false
def plainsA (k : Mk) : List (Int × Int) := if k.good then plainsL k (plainN k) else []
theorem specPlainContracts_rc (m : Mem) (v : Value) (k : Mk) (h : MkA m v k) :
    RC Try.prog 24 [v] m (AnsO m (PairsO 43 (plainsA k)) fun v => .tuple #[v, .bool k.good]) := by
  refine rc_of_run mixed ok_spec_PlainContracts (by simp) (go_start _ _ _ ?_)
  obtain ⟨u, rfl, hu⟩ := h.ro
  unfold plainsA
  try simp (config := {implicitDefEqProofs := false, maxDischargeDepth := 20}) (disch := first | omega | (simp only [lenE]; done) | (simp only [lenE]; omega) | rfl | (simp only [lenE, markR_len]; done) | (simp only [lenE, markR_len]; omega)) only [runE, mapE, listE, initT_5, initT_6, initT_7, initT_8, resV, oneV, binA, unA, reduceCtorEq, Nat.reduceEqDiff, Nat.reduceAdd, Nat.reduceLT, Nat.reduceLeDiff, Nat.reduceMul, Nat.reduceSub, ↓reduceIte, decide_true, decide_false, Bool.true_eq_false, Bool.false_eq_true, Bool.not_true, Bool.not_false, if_true, if_false, and_true, true_and, memE, celE, w64, Nat.zero_add, Nat.add_zero, Nat.mul_one, putL, and_self, ldn, c_spec_PlainContracts, r_spec_PlainContracts]
  obtain ⟨E, hE⟩ : ∃ M', M' = roM m ++ [⟨.own, 26, [u, .int .i64 k.price, .int .i64 k.make, .int .i64 k.left]⟩] := ⟨_, rfl⟩
  rw [← hE]
  have hX : Ext m E := by rw [hE]; exact ((Ext.refl m).one _ _)
  have LE : E.length = m.length + 1 := by rw [hE]; simp [roM_len]
  have oM : OwnB E (m.length) 26 [u, .int .i64 k.price, .int .i64 k.make, .int .i64 k.left] := by rw [hE]; exact (OwnB.here (by simp [roM_len]))
  clear hE
  try simp (config := {implicitDefEqProofs := false, maxDischargeDepth := 20}) (disch := first | omega | (simp only [lenE]; done) | (simp only [lenE]; omega) | rfl | (simp only [lenE, markR_len]; done) | (simp only [lenE, markR_len]; omega)) only [runE, mapE, listE, initT_5, initT_6, initT_7, initT_8, resV, oneV, binA, unA, reduceCtorEq, Nat.reduceEqDiff, Nat.reduceAdd, Nat.reduceLT, Nat.reduceLeDiff, Nat.reduceMul, Nat.reduceSub, ↓reduceIte, decide_true, decide_false, Bool.true_eq_false, Bool.false_eq_true, Bool.not_true, Bool.not_false, if_true, if_false, and_true, true_and, memE, celE, w64, Nat.zero_add, Nat.add_zero, Nat.mul_one, putL, and_self, ldn, oM.mk4]
  first | refine callH_rc (l10Market_rc _ _ k ⟨u, rfl, hX.ints hu⟩) ?_ | refine rcallH_rc (l10Market_rc _ _ k ⟨u, rfl, hX.ints hu⟩) ?_
  rintro r n1 ⟨rfl, nr1⟩
  obtain ⟨E1, hE1⟩ : ∃ M', M' = E ++ n1 := ⟨_, rfl⟩
  rw [← hE1]
  replace hX : Ext m E1 := by rw [hE1]; exact hX.app nr1
  replace oM := oM.ext n1
  rw [← hE1] at oM
  clear hE1
  cases g1 : k.good with
  | false =>
    try simp (config := {implicitDefEqProofs := false, maxDischargeDepth := 20}) (disch := first | omega | (simp only [lenE]; done) | (simp only [lenE]; omega) | rfl | (simp only [lenE, markR_len]; done) | (simp only [lenE, markR_len]; omega)) only [runE, mapE, listE, initT_5, initT_6, initT_7, initT_8, resV, oneV, binA, unA, reduceCtorEq, Nat.reduceEqDiff, Nat.reduceAdd, Nat.reduceLT, Nat.reduceLeDiff, Nat.reduceMul, Nat.reduceSub, ↓reduceIte, decide_true, decide_false, Bool.true_eq_false, Bool.false_eq_true, Bool.not_true, Bool.not_false, if_true, if_false, and_true, true_and, memE, celE, w64, Nat.zero_add, Nat.add_zero, Nat.mul_one, putL, and_self, ldn, bsl_no, oM.mk4]
    try simp (config := {implicitDefEqProofs := false, maxDischargeDepth := 20}) (disch := first | omega | (simp only [lenE]; done) | (simp only [lenE]; omega) | rfl | (simp only [lenE, markR_len]; done) | (simp only [lenE, markR_len]; omega)) only [runE, mapE, listE, initT_5, initT_6, initT_7, initT_8, resV, oneV, binA, unA, reduceCtorEq, Nat.reduceEqDiff, Nat.reduceAdd, Nat.reduceLT, Nat.reduceLeDiff, Nat.reduceMul, Nat.reduceSub, ↓reduceIte, decide_true, decide_false, Bool.true_eq_false, Bool.false_eq_true, Bool.not_true, Bool.not_false, if_true, if_false, and_true, true_and, memE, celE, w64, Nat.zero_add, Nat.add_zero, Nat.mul_one, putL, and_self, ldn, bsl_no]
    exact ext_noPairs (f := fun v => .tuple #[v, .bool false]) hX rfl
  | true =>
  try simp (config := {implicitDefEqProofs := false, maxDischargeDepth := 20}) (disch := first | omega | (simp only [lenE]; done) | (simp only [lenE]; omega) | rfl | (simp only [lenE, markR_len]; done) | (simp only [lenE, markR_len]; omega)) only [runE, mapE, listE, initT_5, initT_6, initT_7, initT_8, resV, oneV, binA, unA, reduceCtorEq, Nat.reduceEqDiff, Nat.reduceAdd, Nat.reduceLT, Nat.reduceLeDiff, Nat.reduceMul, Nat.reduceSub, ↓reduceIte, decide_true, decide_false, Bool.true_eq_false, Bool.false_eq_true, Bool.not_true, Bool.not_false, if_true, if_false, and_true, true_and, memE, celE, w64, Nat.zero_add, Nat.add_zero, Nat.mul_one, putL, and_self, ldn, oM.mk4]
  have hg := goodM_iff.1 g1
  first | refine callH_rc (l10Plains_rc _ _ k ⟨u, rfl, hX.ints hu⟩ hg) ?_ | refine rcallH_rc (l10Plains_rc _ _ k ⟨u, rfl, hX.ints hu⟩ hg) ?_
  rintro r n2 ⟨nr2, w, e, hw⟩
  rw [id_eq] at e
  subst e
  simp (config := {implicitDefEqProofs := false, maxDischargeDepth := 20}) (disch := first | omega | (simp only [lenE]; done) | (simp only [lenE]; omega) | rfl | (simp only [lenE, markR_len]; done) | (simp only [lenE, markR_len]; omega)) only [runE, mapE, listE, initT_5, initT_6, initT_7, initT_8, resV, oneV, binA, unA, reduceCtorEq, Nat.reduceEqDiff, Nat.reduceAdd, Nat.reduceLT, Nat.reduceLeDiff, Nat.reduceMul, Nat.reduceSub, ↓reduceIte, decide_true, decide_false, Bool.true_eq_false, Bool.false_eq_true, Bool.not_true, Bool.not_false, if_true, if_false, and_true, true_and, memE, celE, w64, Nat.zero_add, Nat.add_zero, Nat.mul_one, putL, and_self, ldn]
  exact hX.pass (f := fun v => .tuple #[v, .bool true]) nr2 (PairsO.wide _ _) hw
theorem implPlainContracts_rc (m : Mem) (v : Value) (k : Mk) (h : MkA m v k) :
    RC Try.prog 23 [v] m (AnsO m (PairsO 43 (plainsA k)) fun v => .tuple #[v, .bool k.good]) := by
  refine rc_of_run mixed ok_impl_PlainContracts (by simp) (go_start _ _ _ ?_)
  obtain ⟨u, rfl, hu⟩ := h.ro
  unfold plainsA
  try simp (config := {implicitDefEqProofs := false, maxDischargeDepth := 20}) (disch := first | omega | (simp only [lenE]; done) | (simp only [lenE]; omega) | rfl | (simp only [lenE, markR_len]; done) | (simp only [lenE, markR_len]; omega)) only [runE, mapE, listE, initT_5, initT_6, initT_7, initT_8, resV, oneV, binA, unA, reduceCtorEq, Nat.reduceEqDiff, Nat.reduceAdd, Nat.reduceLT, Nat.reduceLeDiff, Nat.reduceMul, Nat.reduceSub, ↓reduceIte, decide_true, decide_false, Bool.true_eq_false, Bool.false_eq_true, Bool.not_true, Bool.not_false, if_true, if_false, and_true, true_and, memE, celE, w64, Nat.zero_add, Nat.add_zero, Nat.mul_one, putL, and_self, ldn, c_impl_PlainContracts, r_impl_PlainContracts]
  obtain ⟨E, hE⟩ : ∃ M', M' = roM m ++ [⟨.own, 26, [u, .int .i64 k.price, .int .i64 k.make, .int .i64 k.left]⟩] := ⟨_, rfl⟩
  rw [← hE]
  have hX : Ext m E := by rw [hE]; exact ((Ext.refl m).one _ _)
  have LE : E.length = m.length + 1 := by rw [hE]; simp [roM_len]
  have oM : OwnB E (m.length) 26 [u, .int .i64 k.price, .int .i64 k.make, .int .i64 k.left] := by rw [hE]; exact (OwnB.here (by simp [roM_len]))
  clear hE
  try simp (config := {implicitDefEqProofs := false, maxDischargeDepth := 20}) (disch := first | omega | (simp only [lenE]; done) | (simp only [lenE]; omega) | rfl | (simp only [lenE, markR_len]; done) | (simp only [lenE, markR_len]; omega)) only [runE, mapE, listE, initT_5, initT_6, initT_7, initT_8, resV, oneV, binA, unA, reduceCtorEq, Nat.reduceEqDiff, Nat.reduceAdd, Nat.reduceLT, Nat.reduceLeDiff, Nat.reduceMul, Nat.reduceSub, ↓reduceIte, decide_true, decide_false, Bool.true_eq_false, Bool.false_eq_true, Bool.not_true, Bool.not_false, if_true, if_false, and_true, true_and, memE, celE, w64, Nat.zero_add, Nat.add_zero, Nat.mul_one, putL, and_self, ldn, oM.mk4]
  first | refine callH_rc (implIsMarket_rc _ _ k ⟨u, rfl, hX.ints hu⟩) ?_ | refine rcallH_rc (implIsMarket_rc _ _ k ⟨u, rfl, hX.ints hu⟩) ?_
  rintro r n1 ⟨rfl, nr1⟩
  obtain ⟨E1, hE1⟩ : ∃ M', M' = E ++ n1 := ⟨_, rfl⟩
  rw [← hE1]
  replace hX : Ext m E1 := by rw [hE1]; exact hX.app nr1
  replace oM := oM.ext n1
  rw [← hE1] at oM
  clear hE1
  cases g1 : k.good with
  | false =>
    try simp (config := {implicitDefEqProofs := false, maxDischargeDepth := 20}) (disch := first | omega | (simp only [lenE]; done) | (simp only [lenE]; omega) | rfl | (simp only [lenE, markR_len]; done) | (simp only [lenE, markR_len]; omega)) only [runE, mapE, listE, initT_5, initT_6, initT_7, initT_8, resV, oneV, binA, unA, reduceCtorEq, Nat.reduceEqDiff, Nat.reduceAdd, Nat.reduceLT, Nat.reduceLeDiff, Nat.reduceMul, Nat.reduceSub, ↓reduceIte, decide_true, decide_false, Bool.true_eq_false, Bool.false_eq_true, Bool.not_true, Bool.not_false, if_true, if_false, and_true, true_and, memE, celE, w64, Nat.zero_add, Nat.add_zero, Nat.mul_one, putL, and_self, ldn, bsl_no, oM.mk4]
    try simp (config := {implicitDefEqProofs := false, maxDischargeDepth := 20}) (disch := first | omega | (simp only [lenE]; done) | (simp only [lenE]; omega) | rfl | (simp only [lenE, markR_len]; done) | (simp only [lenE, markR_len]; omega)) only [runE, mapE, listE, initT_5, initT_6, initT_7, initT_8, resV, oneV, binA, unA, reduceCtorEq, Nat.reduceEqDiff, Nat.reduceAdd, Nat.reduceLT, Nat.reduceLeDiff, Nat.reduceMul, Nat.reduceSub, ↓reduceIte, decide_true, decide_false, Bool.true_eq_false, Bool.false_eq_true, Bool.not_true, Bool.not_false, if_true, if_false, and_true, true_and, memE, celE, w64, Nat.zero_add, Nat.add_zero, Nat.mul_one, putL, and_self, ldn, bsl_no]
    exact ext_noPairs (f := fun v => .tuple #[v, .bool false]) hX rfl
  | true =>
  try simp (config := {implicitDefEqProofs := false, maxDischargeDepth := 20}) (disch := first | omega | (simp only [lenE]; done) | (simp only [lenE]; omega) | rfl | (simp only [lenE, markR_len]; done) | (simp only [lenE, markR_len]; omega)) only [runE, mapE, listE, initT_5, initT_6, initT_7, initT_8, resV, oneV, binA, unA, reduceCtorEq, Nat.reduceEqDiff, Nat.reduceAdd, Nat.reduceLT, Nat.reduceLeDiff, Nat.reduceMul, Nat.reduceSub, ↓reduceIte, decide_true, decide_false, Bool.true_eq_false, Bool.false_eq_true, Bool.not_true, Bool.not_false, if_true, if_false, and_true, true_and, memE, celE, w64, Nat.zero_add, Nat.add_zero, Nat.mul_one, putL, and_self, ldn, oM.mk4]
  have hg := goodM_iff.1 g1
  have pn := plainN_in hg
  first | refine callH_rc (plainContracts_rc _ _ k ⟨u, rfl, hX.ints hu⟩ hg) ?_ | refine rcallH_rc (plainContracts_rc _ _ k ⟨u, rfl, hX.ints hu⟩ hg) ?_
  rintro r n2 ⟨nr2, a, b, rfl, ha, hb, oA, oB⟩
  rw [fL_len, fL_len]
  obtain ⟨K, hK⟩ : ∃ M', M' = E1 ++ n2 := ⟨_, rfl⟩
  rw [← hK] at oA oB ⊢
  have hX2 : Ext m K := by rw [hK]; exact hX.app nr2
  clear hK
  have LE1 := hX.len
  have hal := oA.lt
  have hbl := oB.lt
  simp (config := {implicitDefEqProofs := false, maxDischargeDepth := 20}) (disch := first | omega | (simp only [lenE]; done) | (simp only [lenE]; omega) | rfl | (simp only [lenE, markR_len]; done) | (simp only [lenE, markR_len]; omega)) only [runE, mapE, listE, initT_5, initT_6, initT_7, initT_8, resV, oneV, binA, unA, reduceCtorEq, Nat.reduceEqDiff, Nat.reduceAdd, Nat.reduceLT, Nat.reduceLeDiff, Nat.reduceMul, Nat.reduceSub, ↓reduceIte, decide_true, decide_false, Bool.true_eq_false, Bool.false_eq_true, Bool.not_true, Bool.not_false, if_true, if_false, and_true, true_and, memE, celE, w64, Nat.zero_add, Nat.add_zero, Nat.mul_one, putL, and_self, ldn, ext_2_0, ext_2_1, bsl_no]
  refine loop_inv mixed (fun s => ∃ (j : Nat) (M : Mem) (id : Nat), j ≤ plainN k ∧ s.m = M ∧ Ext m M ∧ a < id ∧ b < id ∧ OwnR M a (fL (fun (i : Nat) => ((selO k (plainC (k.make + i)) : Nat) : Int)) (plainN k)) ∧ OwnR M b (fL (fun (i : Nat) => makP k (plainC (k.make + i)) (selO k (plainC (k.make + i)))) (plainN k)) ∧ OwnB M id 43 (pairsC (plainsL k j)) ∧ s.t 19 = .slice (some ⟨a, 0, none⟩) (plainN k) 1 ∧ s.t 5 = .slice (some ⟨b, 0, none⟩) (plainN k) 1 ∧ s.t 20 = .int .i64 (plainN k : Nat) ∧ s.t 6 = .slice (some ⟨id, 0, none⟩) j 2 ∧ s.t 21 = .int .i64 (j : Int)) (fun s => 105 - (intOf (s.t 21)).toNat)
    ⟨0, _, K.length, by omega, rfl, hX2.one _ _, by omega, by omega, oA.ext _, oB.ext _, OwnB.here rfl, rfl, rfl, rfl, rfl, rfl⟩ ?_
  rintro s ⟨j, M, id, hj, tm, hX, hai, hbi, oA, oB, ho, t19, t5, t20, t6, t21⟩
  by_cases hlt : j < plainN k
  · have hlt' : (j : Int) < (plainN k : Nat) := by omega
    have iA : IntsA M (.slice (some ⟨a, 0, none⟩) (fL (fun (i : Nat) => ((selO k (plainC (k.make + i)) : Nat) : Int)) (plainN k)).length 1) _ := oA.ints (by rw [fL_len]; omega) 1
    have iB : IntsA M (.slice (some ⟨b, 0, none⟩) (fL (fun (i : Nat) => makP k (plainC (k.make + i)) (selO k (plainC (k.make + i)))) (plainN k)).length 1) _ := oB.ints (by rw [fL_len]; omega) 1
    rw [fL_len] at iA iB
    have a1 := iA.at_ j (by rw [fL_len]; exact hlt)
    have a2 := iA.ld j (by rw [fL_len]; exact hlt)
    have b1 := iB.at_ j (by rw [fL_len]; exact hlt)
    have b2 := iB.ld j (by rw [fL_len]; exact hlt)
    rw [fL_at hlt] at a2 b2
    have happ := app_back (e := 43) (sz := 2) (byt := 16) (n := j) (ys := [.int .i64 (selO k (plainC (k.make + j)) : Int), .int .i64 (makP k (plainC (k.make + j)) (selO k (plainC (k.make + j))))]) ho rfl (by rw [pairsC_len, plainsL_len]) rfl rfl (by omega) (by omega)
    simp (config := {implicitDefEqProofs := false, maxDischargeDepth := 20}) (disch := first | omega | (simp only [lenE]; done) | (simp only [lenE]; omega) | rfl | (simp only [lenE, markR_len]; done) | (simp only [lenE, markR_len]; omega)) only [runE, mapE, listE, initT_5, initT_6, initT_7, initT_8, resV, oneV, binA, unA, reduceCtorEq, Nat.reduceEqDiff, Nat.reduceAdd, Nat.reduceLT, Nat.reduceLeDiff, Nat.reduceMul, Nat.reduceSub, ↓reduceIte, decide_true, decide_false, Bool.true_eq_false, Bool.false_eq_true, Bool.not_true, Bool.not_false, if_true, if_false, and_true, true_and, memE, celE, w64, Nat.zero_add, Nat.add_zero, Nat.mul_one, putL, and_self, ldn, tm, t19, t5, t20, t6, t21, hlt', a1, a2, b1, b2, bld_pairM, bsl_pair, happ]
    have hidl := ho.lt
    have hl2 := hX.len
    refine ⟨⟨j + 1, _, M.length + 1, by omega, rfl, ((hX.dead (by omega)).one _ _).one _ _, by omega, by omega, ((oA.set_neM (by omega) _).ext _).ext _, ((oB.set_neM (by omega) _).ext _).ext _, ?_, rfl, by simp⟩, ?_⟩
    · rw [plainsL_s, pairsC_sM]
      exact OwnB.here (by simp)
    · simp [intOf]; omega
  · have hlt' : ¬ ((j : Int) < (plainN k : Nat)) := by omega
    obtain rfl : j = plainN k := by omega
    simp (config := {implicitDefEqProofs := false, maxDischargeDepth := 20}) (disch := first | omega | (simp only [lenE]; done) | (simp only [lenE]; omega) | rfl | (simp only [lenE, markR_len]; done) | (simp only [lenE, markR_len]; omega)) only [runE, mapE, listE, initT_5, initT_6, initT_7, initT_8, resV, oneV, binA, unA, reduceCtorEq, Nat.reduceEqDiff, Nat.reduceAdd, Nat.reduceLT, Nat.reduceLeDiff, Nat.reduceMul, Nat.reduceSub, ↓reduceIte, decide_true, decide_false, Bool.true_eq_false, Bool.false_eq_true, Bool.not_true, Bool.not_false, if_true, if_false, and_true, true_and, memE, celE, w64, Nat.zero_add, Nat.add_zero, Nat.mul_one, putL, and_self, ldn, tm, t19, t5, t20, t6, t21, hlt']
    exact ext_pairsM (f := fun v => .tuple #[v, .bool true]) hX ho (by omega) (by simp [plainsL_len]) (by simp [plainsL_len]; omega)
theorem specBestPlain_rc (m : Mem) (v : Value) (k : Mk) (h : MkA m v k) :
    RC Try.prog 27 [v] m (AnsV (.tuple #[.int .i64 (if k.good then bestPl k else 0), .bool k.good])) := by
  refine rc_of_run mixed ok_spec_BestPlain (by simp) (go_start _ _ _ ?_)
  obtain ⟨u, rfl, hu⟩ := h.ro
  try simp (config := {implicitDefEqProofs := false, maxDischargeDepth := 20}) (disch := first | omega | (simp only [lenE]; done) | (simp only [lenE]; omega) | rfl | (simp only [lenE, markR_len]; done) | (simp only [lenE, markR_len]; omega)) only [runE, mapE, listE, initT_5, initT_6, initT_7, initT_8, resV, oneV, binA, unA, reduceCtorEq, Nat.reduceEqDiff, Nat.reduceAdd, Nat.reduceLT, Nat.reduceLeDiff, Nat.reduceMul, Nat.reduceSub, ↓reduceIte, decide_true, decide_false, Bool.true_eq_false, Bool.false_eq_true, Bool.not_true, Bool.not_false, if_true, if_false, and_true, true_and, memE, celE, w64, Nat.zero_add, Nat.add_zero, Nat.mul_one, putL, and_self, ldn, c_spec_BestPlain, r_spec_BestPlain]
  obtain ⟨E, hE⟩ : ∃ M', M' = roM m ++ [⟨.own, 26, [u, .int .i64 k.price, .int .i64 k.make, .int .i64 k.left]⟩] := ⟨_, rfl⟩
  rw [← hE]
  have hX : Ext m E := by rw [hE]; exact ((Ext.refl m).one _ _)
  have LE : E.length = m.length + 1 := by rw [hE]; simp [roM_len]
  have oM : OwnB E (m.length) 26 [u, .int .i64 k.price, .int .i64 k.make, .int .i64 k.left] := by rw [hE]; exact (OwnB.here (by simp [roM_len]))
  clear hE
  try simp (config := {implicitDefEqProofs := false, maxDischargeDepth := 20}) (disch := first | omega | (simp only [lenE]; done) | (simp only [lenE]; omega) | rfl | (simp only [lenE, markR_len]; done) | (simp only [lenE, markR_len]; omega)) only [runE, mapE, listE, initT_5, initT_6, initT_7, initT_8, resV, oneV, binA, unA, reduceCtorEq, Nat.reduceEqDiff, Nat.reduceAdd, Nat.reduceLT, Nat.reduceLeDiff, Nat.reduceMul, Nat.reduceSub, ↓reduceIte, decide_true, decide_false, Bool.true_eq_false, Bool.false_eq_true, Bool.not_true, Bool.not_false, if_true, if_false, and_true, true_and, memE, celE, w64, Nat.zero_add, Nat.add_zero, Nat.mul_one, putL, and_self, ldn, oM.mk4]
  first | refine callH_rc (l10Market_rc _ _ k ⟨u, rfl, hX.ints hu⟩) ?_ | refine rcallH_rc (l10Market_rc _ _ k ⟨u, rfl, hX.ints hu⟩) ?_
  rintro r n1 ⟨rfl, nr1⟩
  obtain ⟨E1, hE1⟩ : ∃ M', M' = E ++ n1 := ⟨_, rfl⟩
  rw [← hE1]
  replace hX : Ext m E1 := by rw [hE1]; exact hX.app nr1
  replace oM := oM.ext n1
  rw [← hE1] at oM
  clear hE1
  cases g1 : k.good with
  | false =>
    try simp (config := {implicitDefEqProofs := false, maxDischargeDepth := 20}) (disch := first | omega | (simp only [lenE]; done) | (simp only [lenE]; omega) | rfl | (simp only [lenE, markR_len]; done) | (simp only [lenE, markR_len]; omega)) only [runE, mapE, listE, initT_5, initT_6, initT_7, initT_8, resV, oneV, binA, unA, reduceCtorEq, Nat.reduceEqDiff, Nat.reduceAdd, Nat.reduceLT, Nat.reduceLeDiff, Nat.reduceMul, Nat.reduceSub, ↓reduceIte, decide_true, decide_false, Bool.true_eq_false, Bool.false_eq_true, Bool.not_true, Bool.not_false, if_true, if_false, and_true, true_and, memE, celE, w64, Nat.zero_add, Nat.add_zero, Nat.mul_one, putL, and_self, ldn, oM.mk4]
    exact ext_ansV hX (by simp)
  | true =>
  try simp (config := {implicitDefEqProofs := false, maxDischargeDepth := 20}) (disch := first | omega | (simp only [lenE]; done) | (simp only [lenE]; omega) | rfl | (simp only [lenE, markR_len]; done) | (simp only [lenE, markR_len]; omega)) only [runE, mapE, listE, initT_5, initT_6, initT_7, initT_8, resV, oneV, binA, unA, reduceCtorEq, Nat.reduceEqDiff, Nat.reduceAdd, Nat.reduceLT, Nat.reduceLeDiff, Nat.reduceMul, Nat.reduceSub, ↓reduceIte, decide_true, decide_false, Bool.true_eq_false, Bool.false_eq_true, Bool.not_true, Bool.not_false, if_true, if_false, and_true, true_and, memE, celE, w64, Nat.zero_add, Nat.add_zero, Nat.mul_one, putL, and_self, ldn, oM.mk4]
  have hg := goodM_iff.1 g1
  have pn := plainN_in hg
  have hm := hg.make
  have hp := hg.price
  first | refine callH_rc (l10Plains_rc _ _ k ⟨u, rfl, hX.ints hu⟩ hg) ?_ | refine rcallH_rc (l10Plains_rc _ _ k ⟨u, rfl, hX.ints hu⟩ hg) ?_
  rintro r n2 ⟨nr2, w, e, hw⟩
  rw [id_eq] at e
  subst e
  obtain ⟨-, id, fl, rfl, -, -, ho⟩ := hw.now
  rw [plainsL_len]
  obtain ⟨K, hK⟩ : ∃ M', M' = E1 ++ n2 := ⟨_, rfl⟩
  rw [← hK] at ho ⊢
  have hX2 : Ext m K := by rw [hK]; exact hX.app nr2
  have oM2 : OwnB K m.length 26 [u, .int .i64 k.price, .int .i64 k.make, .int .i64 k.left] := by rw [hK]; exact oM.ext _
  clear hK
  have rdp : ∀ j, j < plainN k → rdc K id (j * 2 + 1) = some (.int .i64 (plainP k j).2) := fun j hj => by rw [ho.rd, (pairsC_at _ j (by rw [plainsL_len]; exact hj)).2, plainsL_at hj]
  simp (config := {implicitDefEqProofs := false, maxDischargeDepth := 20}) (disch := first | omega | (simp only [lenE]; done) | (simp only [lenE]; omega) | rfl | (simp only [lenE, markR_len]; done) | (simp only [lenE, markR_len]; omega)) only [runE, mapE, listE, initT_5, initT_6, initT_7, initT_8, resV, oneV, binA, unA, reduceCtorEq, Nat.reduceEqDiff, Nat.reduceAdd, Nat.reduceLT, Nat.reduceLeDiff, Nat.reduceMul, Nat.reduceSub, ↓reduceIte, decide_true, decide_false, Bool.true_eq_false, Bool.false_eq_true, Bool.not_true, Bool.not_false, if_true, if_false, and_true, true_and, memE, celE, w64, Nat.zero_add, Nat.add_zero, Nat.mul_one, putL, and_self, ldn]
  obtain ⟨f, hf⟩ : ∃ f : Nat → Int, f = fun i => (plainP k i).2 := ⟨_, rfl⟩
  refine loop_inv mixed (fun s => ∃ (j : Nat), j + 1 ≤ plainN k ∧ s.m = K ∧ s.t 1 = .pointer (some ⟨m.length, 0, none⟩) ∧ s.t 4 = .slice (some ⟨id, 0, none⟩) (plainN k) fl ∧ s.t 5 = .int .i64 ((argG f j : Nat) : Int) ∧ s.t 6 = .int .i64 ((j + 1 : Nat) : Int)) (fun s => 105 - (intOf (s.t 6)).toNat)
    ⟨0, by omega, rfl, rfl, rfl, rfl, rfl⟩ ?_
  rintro s ⟨j, hj, tm, t1, t4, t5, t6⟩
  have hA := argG_le f j
  by_cases hlt : j + 1 < plainN k
  · have hlt' : ((j + 1 : Nat) : Int) < (plainN k : Nat) := by omega
    have hal : argG f j < plainN k := by omega
    have r1 := rdp (j + 1) hlt
    have r2 := rdp (argG f j) hal
    rw [show (plainP k (j + 1)).2 = f (j + 1) by rw [hf]] at r1
    rw [show (plainP k (argG f j)).2 = f (argG f j) by rw [hf]] at r2
    by_cases hc2 : f (argG f j) < f (j + 1)
    · simp (config := {implicitDefEqProofs := false, maxDischargeDepth := 20}) (disch := first | omega | (simp only [lenE]; done) | (simp only [lenE]; omega) | rfl | (simp only [lenE, markR_len]; done) | (simp only [lenE, markR_len]; omega)) only [runE, mapE, listE, initT_5, initT_6, initT_7, initT_8, resV, oneV, binA, unA, reduceCtorEq, Nat.reduceEqDiff, Nat.reduceAdd, Nat.reduceLT, Nat.reduceLeDiff, Nat.reduceMul, Nat.reduceSub, ↓reduceIte, decide_true, decide_false, Bool.true_eq_false, Bool.false_eq_true, Bool.not_true, Bool.not_false, if_true, if_false, and_true, true_and, memE, celE, w64, Nat.zero_add, Nat.add_zero, Nat.mul_one, putL, and_self, ldn, tm, t1, t4, t5, t6, hlt', iadA_in hlt, iadA_in hal, iada_1, r1, r2, gt_iff_lt, hc2]
      exact ⟨⟨j + 1, by omega, by simp only [argG]; rw [if_pos hc2], by simp⟩, by simp [intOf]; omega⟩
    · simp (config := {implicitDefEqProofs := false, maxDischargeDepth := 20}) (disch := first | omega | (simp only [lenE]; done) | (simp only [lenE]; omega) | rfl | (simp only [lenE, markR_len]; done) | (simp only [lenE, markR_len]; omega)) only [runE, mapE, listE, initT_5, initT_6, initT_7, initT_8, resV, oneV, binA, unA, reduceCtorEq, Nat.reduceEqDiff, Nat.reduceAdd, Nat.reduceLT, Nat.reduceLeDiff, Nat.reduceMul, Nat.reduceSub, ↓reduceIte, decide_true, decide_false, Bool.true_eq_false, Bool.false_eq_true, Bool.not_true, Bool.not_false, if_true, if_false, and_true, true_and, memE, celE, w64, Nat.zero_add, Nat.add_zero, Nat.mul_one, putL, and_self, ldn, tm, t1, t4, t5, t6, hlt', iadA_in hlt, iadA_in hal, iada_1, r1, r2, gt_iff_lt, hc2]
      exact ⟨⟨j + 1, by omega, by simp only [argG]; rw [if_neg hc2], by simp⟩, by simp [intOf]; omega⟩
  · have hlt' : ¬ (((j + 1 : Nat) : Int) < (plainN k : Nat)) := by omega
    have ej : j = plainN k - 1 := by omega
    simp (config := {implicitDefEqProofs := false, maxDischargeDepth := 20}) (disch := first | omega | (simp only [lenE]; done) | (simp only [lenE]; omega) | rfl | (simp only [lenE, markR_len]; done) | (simp only [lenE, markR_len]; omega)) only [runE, mapE, listE, initT_5, initT_6, initT_7, initT_8, resV, oneV, binA, unA, reduceCtorEq, Nat.reduceEqDiff, Nat.reduceAdd, Nat.reduceLT, Nat.reduceLeDiff, Nat.reduceMul, Nat.reduceSub, ↓reduceIte, decide_true, decide_false, Bool.true_eq_false, Bool.false_eq_true, Bool.not_true, Bool.not_false, if_true, if_false, and_true, true_and, memE, celE, w64, Nat.zero_add, Nat.add_zero, Nat.mul_one, putL, and_self, ldn, tm, t1, t4, t5, t6, hlt', oM2.mk4]
    exact ext_ansV hX2 (by simp [bestPl, ← hf, ej])
theorem implBestPlain_rc (m : Mem) (v : Value) (k : Mk) (h : MkA m v k) :
    RC Try.prog 26 [v] m (AnsV (.tuple #[.int .i64 (if k.good then bestPl k else 0), .bool k.good])) := by
  refine rc_of_run mixed ok_impl_BestPlain (by simp) (go_start _ _ _ ?_)
  obtain ⟨u, rfl, hu⟩ := h.ro
  try simp (config := {implicitDefEqProofs := false, maxDischargeDepth := 20}) (disch := first | omega | (simp only [lenE]; done) | (simp only [lenE]; omega) | rfl | (simp only [lenE, markR_len]; done) | (simp only [lenE, markR_len]; omega)) only [runE, mapE, listE, initT_5, initT_6, initT_7, initT_8, resV, oneV, binA, unA, reduceCtorEq, Nat.reduceEqDiff, Nat.reduceAdd, Nat.reduceLT, Nat.reduceLeDiff, Nat.reduceMul, Nat.reduceSub, ↓reduceIte, decide_true, decide_false, Bool.true_eq_false, Bool.false_eq_true, Bool.not_true, Bool.not_false, if_true, if_false, and_true, true_and, memE, celE, w64, Nat.zero_add, Nat.add_zero, Nat.mul_one, putL, and_self, ldn, c_impl_BestPlain, r_impl_BestPlain]
  obtain ⟨E, hE⟩ : ∃ M', M' = roM m ++ [⟨.own, 26, [u, .int .i64 k.price, .int .i64 k.make, .int .i64 k.left]⟩] := ⟨_, rfl⟩
  rw [← hE]
  have hX : Ext m E := by rw [hE]; exact ((Ext.refl m).one _ _)
  have LE : E.length = m.length + 1 := by rw [hE]; simp [roM_len]
  have oM : OwnB E (m.length) 26 [u, .int .i64 k.price, .int .i64 k.make, .int .i64 k.left] := by rw [hE]; exact (OwnB.here (by simp [roM_len]))
  clear hE
  try simp (config := {implicitDefEqProofs := false, maxDischargeDepth := 20}) (disch := first | omega | (simp only [lenE]; done) | (simp only [lenE]; omega) | rfl | (simp only [lenE, markR_len]; done) | (simp only [lenE, markR_len]; omega)) only [runE, mapE, listE, initT_5, initT_6, initT_7, initT_8, resV, oneV, binA, unA, reduceCtorEq, Nat.reduceEqDiff, Nat.reduceAdd, Nat.reduceLT, Nat.reduceLeDiff, Nat.reduceMul, Nat.reduceSub, ↓reduceIte, decide_true, decide_false, Bool.true_eq_false, Bool.false_eq_true, Bool.not_true, Bool.not_false, if_true, if_false, and_true, true_and, memE, celE, w64, Nat.zero_add, Nat.add_zero, Nat.mul_one, putL, and_self, ldn, oM.mk4]
  first | refine callH_rc (implIsMarket_rc _ _ k ⟨u, rfl, hX.ints hu⟩) ?_ | refine rcallH_rc (implIsMarket_rc _ _ k ⟨u, rfl, hX.ints hu⟩) ?_
  rintro r n1 ⟨rfl, nr1⟩
  obtain ⟨E1, hE1⟩ : ∃ M', M' = E ++ n1 := ⟨_, rfl⟩
  rw [← hE1]
  replace hX : Ext m E1 := by rw [hE1]; exact hX.app nr1
  replace oM := oM.ext n1
  rw [← hE1] at oM
  clear hE1
  cases g1 : k.good with
  | false =>
    try simp (config := {implicitDefEqProofs := false, maxDischargeDepth := 20}) (disch := first | omega | (simp only [lenE]; done) | (simp only [lenE]; omega) | rfl | (simp only [lenE, markR_len]; done) | (simp only [lenE, markR_len]; omega)) only [runE, mapE, listE, initT_5, initT_6, initT_7, initT_8, resV, oneV, binA, unA, reduceCtorEq, Nat.reduceEqDiff, Nat.reduceAdd, Nat.reduceLT, Nat.reduceLeDiff, Nat.reduceMul, Nat.reduceSub, ↓reduceIte, decide_true, decide_false, Bool.true_eq_false, Bool.false_eq_true, Bool.not_true, Bool.not_false, if_true, if_false, and_true, true_and, memE, celE, w64, Nat.zero_add, Nat.add_zero, Nat.mul_one, putL, and_self, ldn, oM.mk4]
    exact ext_ansV hX (by simp)
  | true =>
  try simp (config := {implicitDefEqProofs := false, maxDischargeDepth := 20}) (disch := first | omega | (simp only [lenE]; done) | (simp only [lenE]; omega) | rfl | (simp only [lenE, markR_len]; done) | (simp only [lenE, markR_len]; omega)) only [runE, mapE, listE, initT_5, initT_6, initT_7, initT_8, resV, oneV, binA, unA, reduceCtorEq, Nat.reduceEqDiff, Nat.reduceAdd, Nat.reduceLT, Nat.reduceLeDiff, Nat.reduceMul, Nat.reduceSub, ↓reduceIte, decide_true, decide_false, Bool.true_eq_false, Bool.false_eq_true, Bool.not_true, Bool.not_false, if_true, if_false, and_true, true_and, memE, celE, w64, Nat.zero_add, Nat.add_zero, Nat.mul_one, putL, and_self, ldn, oM.mk4]
  have hg := goodM_iff.1 g1
  have pn := plainN_in hg
  have hm := hg.make
  have hp := hg.price
  first | refine callH_rc (plainContracts_rc _ _ k ⟨u, rfl, hX.ints hu⟩ hg) ?_ | refine rcallH_rc (plainContracts_rc _ _ k ⟨u, rfl, hX.ints hu⟩ hg) ?_
  rintro r n2 ⟨nr2, a, b, rfl, ha, hb, oA, oB⟩
  obtain ⟨K, hK⟩ : ∃ M', M' = E1 ++ n2 := ⟨_, rfl⟩
  rw [← hK] at oA oB ⊢
  have hX2 : Ext m K := by rw [hK]; exact hX.app nr2
  have oM2 : OwnB K m.length 26 [u, .int .i64 k.price, .int .i64 k.make, .int .i64 k.left] := by rw [hK]; exact oM.ext _
  clear hK
  have iB : IntsA K (.slice (some ⟨b, 0, none⟩) (fL (fun (i : Nat) => makP k (plainC (k.make + i)) (selO k (plainC (k.make + i)))) (plainN k)).length 1) _ := oB.ints (by rw [fL_len]; omega) 1
  simp (config := {implicitDefEqProofs := false, maxDischargeDepth := 20}) (disch := first | omega | (simp only [lenE]; done) | (simp only [lenE]; omega) | rfl | (simp only [lenE, markR_len]; done) | (simp only [lenE, markR_len]; omega)) only [runE, mapE, listE, initT_5, initT_6, initT_7, initT_8, resV, oneV, binA, unA, reduceCtorEq, Nat.reduceEqDiff, Nat.reduceAdd, Nat.reduceLT, Nat.reduceLeDiff, Nat.reduceMul, Nat.reduceSub, ↓reduceIte, decide_true, decide_false, Bool.true_eq_false, Bool.false_eq_true, Bool.not_true, Bool.not_false, if_true, if_false, and_true, true_and, memE, celE, w64, Nat.zero_add, Nat.add_zero, Nat.mul_one, putL, and_self, ldn, ext_2_0, ext_2_1]
  refine callH_rc (firstGreatest_rc _ _ _ iB (by rw [fL_len]; omega)) ?_
  rintro r n3 ⟨rfl, rfl⟩
  rw [List.append_nil]
  have eg : gL (fL (fun (i : Nat) => makP k (plainC (k.make + i)) (selO k (plainC (k.make + i)))) (plainN k)) = argG (fun i => (plainP k i).2) (plainN k - 1) := by
    obtain ⟨q, hq⟩ : ∃ q, plainN k = q + 1 := ⟨plainN k - 1, by omega⟩
    rw [hq, gL_f, Nat.add_sub_cancel]; rfl
  rw [eg]
  have hA := argG_le (fun i => (plainP k i).2) (plainN k - 1)
  simp (config := {implicitDefEqProofs := false, maxDischargeDepth := 20}) (disch := first | omega | (simp only [lenE]; done) | (simp only [lenE]; omega) | rfl | (simp only [lenE, markR_len]; done) | (simp only [lenE, markR_len]; omega)) only [runE, mapE, listE, initT_5, initT_6, initT_7, initT_8, resV, oneV, binA, unA, reduceCtorEq, Nat.reduceEqDiff, Nat.reduceAdd, Nat.reduceLT, Nat.reduceLeDiff, Nat.reduceMul, Nat.reduceSub, ↓reduceIte, decide_true, decide_false, Bool.true_eq_false, Bool.false_eq_true, Bool.not_true, Bool.not_false, if_true, if_false, and_true, true_and, memE, celE, w64, Nat.zero_add, Nat.add_zero, Nat.mul_one, putL, and_self, ldn, ext_2_0, ext_2_1, oM2.mk4]
  exact ext_ansV hX2 (by simp [bestPl])
end Go.Proofs.Ytpedjcagaeedjaa.Ab
end
section
namespace Go.Proofs.Ytpedjcagaeedjaa
set_option linter.unusedVariables false
theorem joi_next (k : Mk) (q : Nat) : joiP k (q + 1) = joiP k q + 100 * ((k.price - k.make) * tot k.w - (k.price - k.left) * upF k.w q) := by
  unfold joiP
  rw [sal_next, show ((q + 1 : Nat) : Int) = (q : Int) + 1 by omega]
  generalize sal k.w q = S
  generalize tot k.w = T
  generalize upF k.w q = U
  generalize (q : Int) = x
  grind
theorem plain_next (k : Mk) (p : Int) (q : Nat) : selP k (plainC p) (q + 1) = selP k (plainC p) q + 100 * ((k.price - p) * tot k.w - (k.price - k.left) * upF k.w q) := by
  unfold selP plainC
  simp only
  rw [sal_next, show ((q + 1 : Nat) : Int) = (q : Int) + 1 by omega]
  generalize sal k.w q = S
  generalize tot k.w = T
  generalize upF k.w q = U
  generalize (q : Int) = x
  grind
theorem argG_conc {f g : Nat → Int} (h : ∀ q, f (q + 1) = f q + g q) (ha : ∀ q, g (q + 1) ≤ g q) (n : Nat) : (∀ j, j < argG f n → 0 < g j) ∧ (argG f n < n → g (argG f n) ≤ 0) := by
  have anti : ∀ i j, i ≤ j → g j ≤ g i := by
    intro i j hij
    induction j with
    | zero => obtain rfl : i = 0 := by omega
              exact Int.le_refl _
    | succ j ih =>
      by_cases e : i = j + 1
      · rw [e]; exact Int.le_refl _
      · have := ih (by omega)
        have := ha j
        omega
  constructor
  · intro j hj
    obtain ⟨a, ea⟩ : ∃ a, argG f n = a + 1 := ⟨argG f n - 1, by omega⟩
    have h1 := argG_first f n a (by omega)
    rw [ea, h] at h1
    have := anti j a (by omega)
    omega
  · intro hlt
    have h1 := argG_max f n (argG f n + 1) (by omega)
    rw [h] at h1
    omega
theorem up_next {k : Mk} (h : GoodM k) (q : Nat) : upF k.w q ≤ upF k.w (q + 1) := up_mono h.dist (by omega)
def gP (k : Mk) (p : Int) (q : Nat) : Int := 100 * ((k.price - p) * tot k.w - (k.price - k.left) * upF k.w q)
theorem gP_anti {k : Mk} (h : GoodM k) (p : Int) (q : Nat) : gP k p (q + 1) ≤ gP k p q := by
  have h1 := up_next h q
  have h2 : (k.price - k.left) * upF k.w q ≤ (k.price - k.left) * upF k.w (q + 1) := Int.mul_le_mul_of_nonneg_left h1 (by have := h.make; have := h.left; omega)
  unfold gP
  omega
theorem gP_mono {k : Mk} (h : GoodM k) {p r : Int} (hpr : p ≤ r) (q : Nat) : gP k r q ≤ gP k p q := by
  have h2 : (k.price - r) * tot k.w ≤ (k.price - p) * tot k.w := Int.mul_le_mul_of_nonneg_right (by omega) (by have := h.tot; omega)
  unfold gP
  omega
theorem quo_joi {k : Mk} (h : GoodM k) : quoO k = joiO k := by
  have hc := argG_conc (f := joiP k) (g := gP k k.make) (fun q => joi_next k q) (gP_anti h k.make) 8
  have ho := joiO_le k
  have hm := h.make
  have hl := h.left
  have lowg : ∀ q, low k.w (k.make - k.left) (k.price - k.make) q ↔ 0 < gP k k.make q := fun q => by
    unfold low gP
    rw [show k.make - k.left + (k.price - k.make) = k.price - k.left by omega]
    omega
  refine crit_uniq h.dist (by omega) ?_ fun j hj => (lowg j).2 (hc.1 j hj)
  intro hlow
  by_cases e : joiO k < 8
  · have := hc.2 e
    have := (lowg _).1 hlow
    unfold joiO at this
    omega
  · exact low_last h.dist (by omega) (by have := h.l9; omega) hlow
theorem joi_conc {k : Mk} (h : GoodM k) (q : Nat) : joiP k (q + 2) - joiP k (q + 1) ≤ joiP k (q + 1) - joiP k q := by
  have h1 := joi_next k q
  have h2 : joiP k (q + 2) = joiP k (q + 1) + _ := joi_next k (q + 1)
  have h3 := gP_anti h k.make q
  unfold gP at h3
  omega
theorem joi_most (k : Mk) {q : Nat} (hq : q ≤ 8) : joiP k q ≤ joiP k (joiO k) := argG_max _ _ _ hq
theorem plain_less {k : Mk} (h : GoodM k) {p r : Int} (hpr : p ≤ r) : selO k (plainC r) ≤ selO k (plainC p) := by
  have h1 := argG_conc (f := selP k (plainC p)) (g := gP k p) (fun q => plain_next k p q) (gP_anti h p) 8
  have h2 := argG_conc (f := selP k (plainC r)) (g := gP k r) (fun q => plain_next k r q) (gP_anti h r) 8
  have h3 := selO_le k (plainC r)
  unfold selO at *
  rcases Nat.lt_or_ge (argG (selP k (plainC p)) 8) (argG (selP k (plainC r)) 8) with e | e
  · have a1 := h1.2 (by omega)
    have a2 := h2.1 _ e
    have a3 := gP_mono h hpr (argG (selP k (plainC p)) 8)
    omega
  · exact e
theorem plain_best {k : Mk} (h : GoodM k) {r : Int} (hr : k.make ≤ r) : selO k (plainC r) ≤ joiO k := by
  have h1 := argG_conc (f := joiP k) (g := gP k k.make) (fun q => joi_next k q) (gP_anti h k.make) 8
  have h2 := argG_conc (f := selP k (plainC r)) (g := gP k r) (fun q => plain_next k r q) (gP_anti h r) 8
  have h3 := selO_le k (plainC r)
  unfold selO joiO at *
  rcases Nat.lt_or_ge (argG (joiP k) 8) (argG (selP k (plainC r)) 8) with e | e
  · have a1 := h1.2 (by omega)
    have a2 := h2.1 _ e
    have a3 := gP_mono h hr (argG (joiP k) 8)
    omega
  · exact e
end Go.Proofs.Ytpedjcagaeedjaa
end
section
namespace Go.Proofs.Ytpedjcagaeedjaa.Ab
open Go Go.RowKit Go.Proofs
set_option maxRecDepth 100000
def c_laws_FnProfits : ACode := .seq (.reg [⟨(some 2), .mv (.const (.bool false)), none⟩])
 (.seq (.seq (.reg [⟨(some 44), .mv (.tmp 0), none⟩,
  ⟨(some 45), .call (.func 5) [(.tmp 44)], none⟩])
 (.cond (.tmp 45) (.seq (.reg [⟨(some 2), .mv (.const (.bool true)), none⟩])
 (.ret)) (.skip)))
 (.seq (.reg [⟨(some 47), .mv (.tmp 0), none⟩,
  ⟨(some 48), .call (.func 6) [(.tmp 47)], none⟩,
  ⟨(some 46), .mv (.tmp 48), none⟩,
  ⟨(some 49), .ext 0 (.tmp 46), none⟩,
  ⟨(some 50), .ext 1 (.tmp 46), none⟩,
  ⟨(some 51), .ext 2 (.tmp 46), none⟩,
  ⟨(some 3), .alc 26 [(.slice none 0 0), (.int .i64 0), (.int .i64 0), (.int .i64 0)], none⟩,
  ⟨(some 4), .alc 28 [(.int .i64 0), (.int .i64 0), (.int .i64 0)], none⟩,
  ⟨none, .st 4 (.tmp 3) (.tmp 49), none⟩,
  ⟨none, .st 3 (.tmp 4) (.tmp 50), none⟩,
  ⟨(some 5), .mv (.tmp 51), none⟩])
 (.seq (.reg [⟨(some 53), .ld (some 4) (.tmp 3), none⟩,
  ⟨(some 54), .ld (some 3) (.tmp 4), none⟩,
  ⟨(some 55), .mv (.tmp 5), none⟩,
  ⟨(some 56), .call (.func 7) [(.tmp 53), (.tmp 54), (.tmp 55)], none⟩,
  ⟨(some 52), .mv (.tmp 56), none⟩,
  ⟨(some 57), .ext 0 (.tmp 52), none⟩,
  ⟨(some 58), .ext 1 (.tmp 52), none⟩,
  ⟨(some 6), .mv (.tmp 57), none⟩,
  ⟨(some 7), .mv (.tmp 58), none⟩])
 (.seq (.seq (.reg [⟨(some 60), .ld (some 4) (.tmp 3), none⟩,
  ⟨(some 61), .ld (some 3) (.tmp 4), none⟩,
  ⟨(some 62), .mv (.tmp 5), none⟩,
  ⟨(some 63), .call (.func 8) [(.tmp 60), (.tmp 61), (.tmp 62)], none⟩,
  ⟨(some 59), .mv (.tmp 63), none⟩,
  ⟨(some 64), .ext 0 (.tmp 59), none⟩,
  ⟨(some 65), .ext 1 (.tmp 59), none⟩,
  ⟨(some 8), .mv (.tmp 64), none⟩,
  ⟨(some 9), .mv (.tmp 65), none⟩])
 (.seq (.reg [⟨(some 66), .mv (.tmp 6), none⟩,
  ⟨(some 67), .mv (.tmp 8), none⟩,
  ⟨(some 68), .bin .neq (.tmp 66) (.tmp 67), none⟩,
  ⟨(some 69), .mv (.tmp 68), none⟩,
  ⟨(some 70), .mv (.tmp 7), (some (69, false))⟩,
  ⟨(some 71), .mv (.tmp 9), (some (69, false))⟩,
  ⟨(some 72), .beq true (.tmp 70) (.tmp 71), (some (69, false))⟩,
  ⟨(some 73), .pick (.tmp 69) (.const (.bool true)) (.tmp 72), none⟩])
 (.cond (.tmp 73) (.seq (.reg [⟨(some 2), .mv (.const (.bool false)), none⟩])
 (.ret)) (.skip))))
 (.seq (.reg [⟨(some 75), .ld (some 4) (.tmp 3), none⟩,
  ⟨(some 76), .ld (some 3) (.tmp 4), none⟩,
  ⟨(some 77), .mv (.tmp 5), none⟩,
  ⟨(some 78), .call (.func 9) [(.tmp 75), (.tmp 76), (.tmp 77)], none⟩,
  ⟨(some 74), .mv (.tmp 78), none⟩,
  ⟨(some 79), .ext 0 (.tmp 74), none⟩,
  ⟨(some 80), .ext 1 (.tmp 74), none⟩,
  ⟨(some 10), .mv (.tmp 79), none⟩,
  ⟨(some 11), .mv (.tmp 80), none⟩])
 (.seq (.seq (.reg [⟨(some 82), .ld (some 4) (.tmp 3), none⟩,
  ⟨(some 83), .ld (some 3) (.tmp 4), none⟩,
  ⟨(some 84), .mv (.tmp 5), none⟩,
  ⟨(some 85), .call (.func 10) [(.tmp 82), (.tmp 83), (.tmp 84)], none⟩,
  ⟨(some 81), .mv (.tmp 85), none⟩,
  ⟨(some 86), .ext 0 (.tmp 81), none⟩,
  ⟨(some 87), .ext 1 (.tmp 81), none⟩,
  ⟨(some 12), .mv (.tmp 86), none⟩,
  ⟨(some 13), .mv (.tmp 87), none⟩])
 (.seq (.reg [⟨(some 88), .mv (.tmp 10), none⟩,
  ⟨(some 89), .mv (.tmp 12), none⟩,
  ⟨(some 90), .bin .neq (.tmp 88) (.tmp 89), none⟩,
  ⟨(some 91), .mv (.tmp 90), none⟩,
  ⟨(some 92), .mv (.tmp 11), (some (91, false))⟩,
  ⟨(some 93), .mv (.tmp 13), (some (91, false))⟩,
  ⟨(some 94), .beq true (.tmp 92) (.tmp 93), (some (91, false))⟩,
  ⟨(some 95), .pick (.tmp 91) (.const (.bool true)) (.tmp 94), none⟩,
  ⟨(some 96), .mv (.tmp 95), none⟩,
  ⟨(some 97), .mv (.tmp 11), (some (96, false))⟩,
  ⟨(some 98), .mv (.tmp 7), (some (96, false))⟩,
  ⟨(some 99), .beq true (.tmp 97) (.tmp 98), (some (96, false))⟩,
  ⟨(some 100), .pick (.tmp 96) (.const (.bool true)) (.tmp 99), none⟩])
 (.cond (.tmp 100) (.seq (.reg [⟨(some 2), .mv (.const (.bool false)), none⟩])
 (.ret)) (.skip))))
 (.seq (.reg [⟨(some 102), .ld (some 4) (.tmp 3), none⟩,
  ⟨(some 103), .mv (.tmp 5), none⟩,
  ⟨(some 104), .call (.func 11) [(.tmp 102), (.tmp 103)], none⟩,
  ⟨(some 101), .mv (.tmp 104), none⟩,
  ⟨(some 105), .ext 0 (.tmp 101), none⟩,
  ⟨(some 106), .ext 1 (.tmp 101), none⟩,
  ⟨(some 14), .mv (.tmp 105), none⟩,
  ⟨(some 15), .mv (.tmp 106), none⟩])
 (.seq (.seq (.reg [⟨(some 108), .ld (some 4) (.tmp 3), none⟩,
  ⟨(some 109), .mv (.tmp 5), none⟩,
  ⟨(some 110), .call (.func 12) [(.tmp 108), (.tmp 109)], none⟩,
  ⟨(some 107), .mv (.tmp 110), none⟩,
  ⟨(some 111), .ext 0 (.tmp 107), none⟩,
  ⟨(some 112), .ext 1 (.tmp 107), none⟩,
  ⟨(some 16), .mv (.tmp 111), none⟩,
  ⟨(some 17), .mv (.tmp 112), none⟩])
 (.seq (.reg [⟨(some 113), .mv (.tmp 14), none⟩,
  ⟨(some 114), .mv (.tmp 16), none⟩,
  ⟨(some 115), .bin .neq (.tmp 113) (.tmp 114), none⟩,
  ⟨(some 116), .mv (.tmp 115), none⟩,
  ⟨(some 117), .mv (.tmp 15), (some (116, false))⟩,
  ⟨(some 118), .mv (.tmp 17), (some (116, false))⟩,
  ⟨(some 119), .beq true (.tmp 117) (.tmp 118), (some (116, false))⟩,
  ⟨(some 120), .pick (.tmp 116) (.const (.bool true)) (.tmp 119), none⟩,
  ⟨(some 121), .mv (.tmp 120), none⟩,
  ⟨(some 122), .mv (.tmp 7), (some (121, false))⟩,
  ⟨(some 123), .mv (.tmp 122), (some (121, false))⟩,
  ⟨(some 124), .mv (.tmp 15), (some (123, true))⟩,
  ⟨(some 125), .un .not (.tmp 124), (some (123, true))⟩,
  ⟨(some 126), .pick (.tmp 123) (.tmp 125) (.const (.bool false)), (some (121, false))⟩,
  ⟨(some 127), .pick (.tmp 121) (.const (.bool true)) (.tmp 126), none⟩])
 (.cond (.tmp 127) (.seq (.reg [⟨(some 2), .mv (.const (.bool false)), none⟩])
 (.ret)) (.skip))))
 (.seq (.reg [⟨(some 129), .ld (some 4) (.tmp 3), none⟩,
  ⟨(some 130), .mv (.tmp 5), none⟩,
  ⟨(some 131), .call (.func 13) [(.tmp 129), (.tmp 130)], none⟩,
  ⟨(some 128), .mv (.tmp 131), none⟩,
  ⟨(some 132), .ext 0 (.tmp 128), none⟩,
  ⟨(some 133), .ext 1 (.tmp 128), none⟩,
  ⟨(some 18), .mv (.tmp 132), none⟩,
  ⟨(some 19), .mv (.tmp 133), none⟩])
 (.seq (.seq (.reg [⟨(some 135), .ld (some 4) (.tmp 3), none⟩,
  ⟨(some 136), .mv (.tmp 5), none⟩,
  ⟨(some 137), .call (.func 14) [(.tmp 135), (.tmp 136)], none⟩,
  ⟨(some 134), .mv (.tmp 137), none⟩,
  ⟨(some 138), .ext 0 (.tmp 134), none⟩,
  ⟨(some 139), .ext 1 (.tmp 134), none⟩,
  ⟨(some 20), .mv (.tmp 138), none⟩,
  ⟨(some 21), .mv (.tmp 139), none⟩])
 (.seq (.reg [⟨(some 140), .mv (.tmp 18), none⟩,
  ⟨(some 141), .mv (.tmp 20), none⟩,
  ⟨(some 142), .bin .neq (.tmp 140) (.tmp 141), none⟩,
  ⟨(some 143), .mv (.tmp 142), none⟩,
  ⟨(some 144), .mv (.tmp 19), (some (143, false))⟩,
  ⟨(some 145), .mv (.tmp 21), (some (143, false))⟩,
  ⟨(some 146), .beq true (.tmp 144) (.tmp 145), (some (143, false))⟩,
  ⟨(some 147), .pick (.tmp 143) (.const (.bool true)) (.tmp 146), none⟩,
  ⟨(some 148), .mv (.tmp 147), none⟩,
  ⟨(some 149), .mv (.tmp 19), (some (148, false))⟩,
  ⟨(some 150), .mv (.tmp 15), (some (148, false))⟩,
  ⟨(some 151), .beq true (.tmp 149) (.tmp 150), (some (148, false))⟩,
  ⟨(some 152), .pick (.tmp 148) (.const (.bool true)) (.tmp 151), none⟩])
 (.cond (.tmp 152) (.seq (.reg [⟨(some 2), .mv (.const (.bool false)), none⟩])
 (.ret)) (.skip))))
 (.seq (.reg [⟨(some 154), .ld (some 4) (.tmp 3), none⟩,
  ⟨(some 155), .call (.func 15) [(.tmp 154)], none⟩,
  ⟨(some 153), .mv (.tmp 155), none⟩,
  ⟨(some 156), .ext 0 (.tmp 153), none⟩,
  ⟨(some 157), .ext 1 (.tmp 153), none⟩,
  ⟨(some 22), .mv (.tmp 156), none⟩,
  ⟨(some 23), .mv (.tmp 157), none⟩])
 (.seq (.seq (.reg [⟨(some 159), .ld (some 4) (.tmp 3), none⟩,
  ⟨(some 160), .call (.func 16) [(.tmp 159)], none⟩,
  ⟨(some 158), .mv (.tmp 160), none⟩,
  ⟨(some 161), .ext 0 (.tmp 158), none⟩,
  ⟨(some 162), .ext 1 (.tmp 158), none⟩,
  ⟨(some 24), .mv (.tmp 161), none⟩,
  ⟨(some 25), .mv (.tmp 162), none⟩])
 (.seq (.reg [⟨(some 163), .mv (.tmp 23), none⟩,
  ⟨(some 164), .mv (.tmp 25), none⟩,
  ⟨(some 165), .beq true (.tmp 163) (.tmp 164), none⟩,
  ⟨(some 166), .mv (.tmp 165), none⟩,
  ⟨(some 167), .mv (.tmp 23), (some (166, false))⟩,
  ⟨(some 168), .ld (some 4) (.tmp 3), (some (166, false))⟩,
  ⟨(some 169), .call (.func 17) [(.tmp 168)], (some (166, false))⟩,
  ⟨(some 170), .beq true (.tmp 167) (.tmp 169), (some (166, false))⟩,
  ⟨(some 171), .pick (.tmp 166) (.const (.bool true)) (.tmp 170), none⟩,
  ⟨(some 172), .mv (.tmp 171), none⟩,
  ⟨(some 173), .mv (.tmp 22), (some (172, false))⟩,
  ⟨(some 174), .mv (.tmp 24), (some (172, false))⟩,
  ⟨(some 175), .call (.func 18) [(.tmp 173), (.tmp 174)], (some (172, false))⟩,
  ⟨(some 176), .un .not (.tmp 175), (some (172, false))⟩,
  ⟨(some 177), .pick (.tmp 172) (.const (.bool true)) (.tmp 176), none⟩])
 (.cond (.tmp 177) (.seq (.reg [⟨(some 2), .mv (.const (.bool false)), none⟩])
 (.ret)) (.skip))))
 (.seq (.reg [⟨(some 179), .ld (some 4) (.tmp 3), none⟩,
  ⟨(some 180), .call (.func 19) [(.tmp 179)], none⟩,
  ⟨(some 178), .mv (.tmp 180), none⟩,
  ⟨(some 181), .ext 0 (.tmp 178), none⟩,
  ⟨(some 182), .ext 1 (.tmp 178), none⟩,
  ⟨(some 26), .mv (.tmp 181), none⟩,
  ⟨(some 27), .mv (.tmp 182), none⟩])
 (.seq (.seq (.reg [⟨(some 184), .ld (some 4) (.tmp 3), none⟩,
  ⟨(some 185), .call (.func 20) [(.tmp 184)], none⟩,
  ⟨(some 183), .mv (.tmp 185), none⟩,
  ⟨(some 186), .ext 0 (.tmp 183), none⟩,
  ⟨(some 187), .ext 1 (.tmp 183), none⟩,
  ⟨(some 28), .mv (.tmp 186), none⟩,
  ⟨(some 29), .mv (.tmp 187), none⟩])
 (.seq (.reg [⟨(some 188), .mv (.tmp 26), none⟩,
  ⟨(some 189), .mv (.tmp 28), none⟩,
  ⟨(some 190), .bin .neq (.tmp 188) (.tmp 189), none⟩,
  ⟨(some 191), .mv (.tmp 190), none⟩,
  ⟨(some 192), .mv (.tmp 27), (some (191, false))⟩,
  ⟨(some 193), .mv (.tmp 29), (some (191, false))⟩,
  ⟨(some 194), .beq true (.tmp 192) (.tmp 193), (some (191, false))⟩,
  ⟨(some 195), .pick (.tmp 191) (.const (.bool true)) (.tmp 194), none⟩,
  ⟨(some 196), .mv (.tmp 195), none⟩,
  ⟨(some 197), .mv (.tmp 27), (some (196, false))⟩,
  ⟨(some 198), .mv (.tmp 23), (some (196, false))⟩,
  ⟨(some 199), .beq true (.tmp 197) (.tmp 198), (some (196, false))⟩,
  ⟨(some 200), .pick (.tmp 196) (.const (.bool true)) (.tmp 199), none⟩])
 (.cond (.tmp 200) (.seq (.reg [⟨(some 2), .mv (.const (.bool false)), none⟩])
 (.ret)) (.skip))))
 (.seq (.reg [⟨(some 202), .ld (some 4) (.tmp 3), none⟩,
  ⟨(some 203), .call (.func 21) [(.tmp 202)], none⟩,
  ⟨(some 201), .mv (.tmp 203), none⟩,
  ⟨(some 204), .ext 0 (.tmp 201), none⟩,
  ⟨(some 205), .ext 1 (.tmp 201), none⟩,
  ⟨(some 30), .mv (.tmp 204), none⟩,
  ⟨(some 31), .mv (.tmp 205), none⟩])
 (.seq (.seq (.reg [⟨(some 207), .ld (some 4) (.tmp 3), none⟩,
  ⟨(some 208), .call (.func 22) [(.tmp 207)], none⟩,
  ⟨(some 206), .mv (.tmp 208), none⟩,
  ⟨(some 209), .ext 0 (.tmp 206), none⟩,
  ⟨(some 210), .ext 1 (.tmp 206), none⟩,
  ⟨(some 32), .mv (.tmp 209), none⟩,
  ⟨(some 33), .mv (.tmp 210), none⟩])
 (.seq (.reg [⟨(some 211), .mv (.tmp 30), none⟩,
  ⟨(some 212), .mv (.tmp 32), none⟩,
  ⟨(some 213), .bin .neq (.tmp 211) (.tmp 212), none⟩,
  ⟨(some 214), .mv (.tmp 213), none⟩,
  ⟨(some 215), .mv (.tmp 31), (some (214, false))⟩,
  ⟨(some 216), .mv (.tmp 33), (some (214, false))⟩,
  ⟨(some 217), .beq true (.tmp 215) (.tmp 216), (some (214, false))⟩,
  ⟨(some 218), .pick (.tmp 214) (.const (.bool true)) (.tmp 217), none⟩])
 (.cond (.tmp 218) (.seq (.reg [⟨(some 2), .mv (.const (.bool false)), none⟩])
 (.ret)) (.skip))))
 (.seq (.reg [⟨(some 220), .ld (some 4) (.tmp 3), none⟩,
  ⟨(some 221), .call (.func 23) [(.tmp 220)], none⟩,
  ⟨(some 219), .mv (.tmp 221), none⟩,
  ⟨(some 222), .ext 0 (.tmp 219), none⟩,
  ⟨(some 223), .ext 1 (.tmp 219), none⟩,
  ⟨(some 34), .mv (.tmp 222), none⟩,
  ⟨(some 35), .mv (.tmp 223), none⟩])
 (.seq (.seq (.reg [⟨(some 225), .ld (some 4) (.tmp 3), none⟩,
  ⟨(some 226), .call (.func 24) [(.tmp 225)], none⟩,
  ⟨(some 224), .mv (.tmp 226), none⟩,
  ⟨(some 227), .ext 0 (.tmp 224), none⟩,
  ⟨(some 228), .ext 1 (.tmp 224), none⟩,
  ⟨(some 36), .mv (.tmp 227), none⟩,
  ⟨(some 37), .mv (.tmp 228), none⟩])
 (.seq (.reg [⟨(some 229), .mv (.tmp 35), none⟩,
  ⟨(some 230), .mv (.tmp 37), none⟩,
  ⟨(some 231), .beq true (.tmp 229) (.tmp 230), none⟩,
  ⟨(some 232), .mv (.tmp 231), none⟩,
  ⟨(some 233), .mv (.tmp 35), (some (232, false))⟩,
  ⟨(some 234), .mv (.tmp 23), (some (232, false))⟩,
  ⟨(some 235), .beq true (.tmp 233) (.tmp 234), (some (232, false))⟩,
  ⟨(some 236), .pick (.tmp 232) (.const (.bool true)) (.tmp 235), none⟩,
  ⟨(some 237), .mv (.tmp 236), none⟩,
  ⟨(some 238), .mv (.tmp 34), (some (237, false))⟩,
  ⟨(some 239), .mv (.tmp 36), (some (237, false))⟩,
  ⟨(some 240), .call (.func 25) [(.tmp 238), (.tmp 239)], (some (237, false))⟩,
  ⟨(some 241), .un .not (.tmp 240), (some (237, false))⟩,
  ⟨(some 242), .pick (.tmp 237) (.const (.bool true)) (.tmp 241), none⟩])
 (.cond (.tmp 242) (.seq (.reg [⟨(some 2), .mv (.const (.bool false)), none⟩])
 (.ret)) (.skip))))
 (.seq (.reg [⟨(some 244), .ld (some 4) (.tmp 3), none⟩,
  ⟨(some 245), .call (.func 26) [(.tmp 244)], none⟩,
  ⟨(some 243), .mv (.tmp 245), none⟩,
  ⟨(some 246), .ext 0 (.tmp 243), none⟩,
  ⟨(some 247), .ext 1 (.tmp 243), none⟩,
  ⟨(some 38), .mv (.tmp 246), none⟩,
  ⟨(some 39), .mv (.tmp 247), none⟩])
 (.seq (.seq (.reg [⟨(some 249), .ld (some 4) (.tmp 3), none⟩,
  ⟨(some 250), .call (.func 27) [(.tmp 249)], none⟩,
  ⟨(some 248), .mv (.tmp 250), none⟩,
  ⟨(some 251), .ext 0 (.tmp 248), none⟩,
  ⟨(some 252), .ext 1 (.tmp 248), none⟩,
  ⟨(some 40), .mv (.tmp 251), none⟩,
  ⟨(some 41), .mv (.tmp 252), none⟩])
 (.seq (.reg [⟨(some 253), .mv (.tmp 38), none⟩,
  ⟨(some 254), .mv (.tmp 40), none⟩,
  ⟨(some 255), .bin .neq (.tmp 253) (.tmp 254), none⟩,
  ⟨(some 256), .mv (.tmp 255), none⟩,
  ⟨(some 257), .mv (.tmp 39), (some (256, false))⟩,
  ⟨(some 258), .mv (.tmp 41), (some (256, false))⟩,
  ⟨(some 259), .beq true (.tmp 257) (.tmp 258), (some (256, false))⟩,
  ⟨(some 260), .pick (.tmp 256) (.const (.bool true)) (.tmp 259), none⟩,
  ⟨(some 261), .mv (.tmp 260), none⟩,
  ⟨(some 262), .mv (.tmp 39), (some (261, false))⟩,
  ⟨(some 263), .mv (.tmp 23), (some (261, false))⟩,
  ⟨(some 264), .beq true (.tmp 262) (.tmp 263), (some (261, false))⟩,
  ⟨(some 265), .pick (.tmp 261) (.const (.bool true)) (.tmp 264), none⟩])
 (.cond (.tmp 265) (.seq (.reg [⟨(some 2), .mv (.const (.bool false)), none⟩])
 (.ret)) (.skip))))
 (.seq (.seq (.reg [⟨(some 266), .mv (.tmp 7), none⟩,
  ⟨(some 267), .mv (.tmp 266), none⟩,
  ⟨(some 268), .mv (.tmp 6), (some (267, true))⟩,
  ⟨(some 269), .mv (.tmp 10), (some (267, true))⟩,
  ⟨(some 270), .bin .add (.tmp 268) (.tmp 269), (some (267, true))⟩,
  ⟨(some 271), .mv (.tmp 14), (some (267, true))⟩,
  ⟨(some 272), .bin .neq (.tmp 270) (.tmp 271), (some (267, true))⟩,
  ⟨(some 273), .pick (.tmp 267) (.tmp 272) (.const (.bool false)), none⟩])
 (.cond (.tmp 273) (.seq (.reg [⟨(some 2), .mv (.const (.bool false)), none⟩])
 (.ret)) (.skip)))
 (.seq (.seq (.reg [⟨(some 274), .mv (.tmp 23), none⟩,
  ⟨(some 275), .un .not (.tmp 274), none⟩])
 (.cond (.tmp 275) (.seq (.reg [⟨(some 2), .mv (.const (.bool true)), none⟩])
 (.ret)) (.skip)))
 (.seq (.seq (.reg [⟨(some 276), .mv (.tmp 31), none⟩,
  ⟨(some 277), .mv (.tmp 276), none⟩,
  ⟨(some 278), .mv (.tmp 30), (some (277, true))⟩,
  ⟨(some 279), .mv (.tmp 26), (some (277, true))⟩,
  ⟨(some 280), .bin .neq (.tmp 278) (.tmp 279), (some (277, true))⟩,
  ⟨(some 281), .pick (.tmp 277) (.tmp 280) (.const (.bool false)), none⟩])
 (.cond (.tmp 281) (.seq (.reg [⟨(some 2), .mv (.const (.bool false)), none⟩])
 (.ret)) (.skip)))
 (.seq (.seq (.reg [⟨(some 42), .mv (.const (.int .i64 0)), none⟩])
 (.block 0 (.loop (.seq (.seq (.reg [⟨(some 282), .mv (.tmp 42), none⟩,
  ⟨(some 283), .mv (.tmp 22), none⟩,
  ⟨(some 284), .len (.tmp 283), none⟩,
  ⟨(some 285), .bin .lss (.tmp 282) (.tmp 284), none⟩])
 (.cond (.tmp 285) (.skip) (.exit 0)))
 (.seq (.block 1 (.seq (.reg [⟨(some 288), .mv (.tmp 22), none⟩,
  ⟨(some 289), .mv (.tmp 42), none⟩,
  ⟨(some 290), .iad 1 (.tmp 288) (.tmp 289), none⟩,
  ⟨(some 291), .ld none (.tmp 290), none⟩,
  ⟨(some 292), .mv (.tmp 22), none⟩,
  ⟨(some 293), .mv (.tmp 26), none⟩,
  ⟨(some 294), .iad 1 (.tmp 292) (.tmp 293), none⟩,
  ⟨(some 295), .ld none (.tmp 294), none⟩,
  ⟨(some 296), .bin .gtr (.tmp 291) (.tmp 295), none⟩,
  ⟨(some 297), .mv (.tmp 296), none⟩,
  ⟨(some 298), .mv (.tmp 42), (some (297, false))⟩,
  ⟨(some 299), .bin .gtr (.tmp 298) (.const (.int .i64 1)), (some (297, false))⟩,
  ⟨(some 300), .mv (.tmp 299), (some (297, false))⟩,
  ⟨(some 301), .mv (.tmp 22), (some (300, true))⟩,
  ⟨(some 302), .mv (.tmp 42), (some (300, true))⟩,
  ⟨(some 303), .iad 1 (.tmp 301) (.tmp 302), (some (300, true))⟩,
  ⟨(some 304), .ld none (.tmp 303), (some (300, true))⟩,
  ⟨(some 305), .mv (.tmp 22), (some (300, true))⟩,
  ⟨(some 306), .mv (.tmp 42), (some (300, true))⟩,
  ⟨(some 307), .bin .sub (.tmp 306) (.const (.int .i64 1)), (some (300, true))⟩,
  ⟨(some 308), .iad 1 (.tmp 305) (.tmp 307), (some (300, true))⟩,
  ⟨(some 309), .ld none (.tmp 308), (some (300, true))⟩,
  ⟨(some 310), .bin .sub (.tmp 304) (.tmp 309), (some (300, true))⟩,
  ⟨(some 311), .mv (.tmp 22), (some (300, true))⟩,
  ⟨(some 312), .mv (.tmp 42), (some (300, true))⟩,
  ⟨(some 313), .bin .sub (.tmp 312) (.const (.int .i64 1)), (some (300, true))⟩,
  ⟨(some 314), .iad 1 (.tmp 311) (.tmp 313), (some (300, true))⟩,
  ⟨(some 315), .ld none (.tmp 314), (some (300, true))⟩,
  ⟨(some 316), .mv (.tmp 22), (some (300, true))⟩,
  ⟨(some 317), .mv (.tmp 42), (some (300, true))⟩,
  ⟨(some 318), .bin .sub (.tmp 317) (.const (.int .i64 2)), (some (300, true))⟩,
  ⟨(some 319), .iad 1 (.tmp 316) (.tmp 318), (some (300, true))⟩,
  ⟨(some 320), .ld none (.tmp 319), (some (300, true))⟩,
  ⟨(some 321), .bin .sub (.tmp 315) (.tmp 320), (some (300, true))⟩,
  ⟨(some 322), .bin .gtr (.tmp 310) (.tmp 321), (some (300, true))⟩,
  ⟨(some 323), .pick (.tmp 300) (.tmp 322) (.const (.bool false)), (some (297, false))⟩,
  ⟨(some 324), .pick (.tmp 297) (.const (.bool true)) (.tmp 323), none⟩])
 (.cond (.tmp 324) (.seq (.reg [⟨(some 2), .mv (.const (.bool false)), none⟩])
 (.ret)) (.skip))))
 (.reg [⟨(some 286), .mv (.tmp 42), none⟩,
  ⟨(some 287), .bin .add (.tmp 286) (.const (.int .i64 1)), none⟩,
  ⟨(some 42), .mv (.tmp 287), none⟩]))))))
 (.seq (.seq (.reg [⟨(some 43), .mv (.const (.int .i64 0)), none⟩])
 (.block 2 (.loop (.seq (.seq (.reg [⟨(some 325), .mv (.tmp 43), none⟩,
  ⟨(some 326), .mv (.tmp 34), none⟩,
  ⟨(some 327), .len (.tmp 326), none⟩,
  ⟨(some 328), .bin .lss (.tmp 325) (.tmp 327), none⟩])
 (.cond (.tmp 328) (.skip) (.exit 2)))
 (.seq (.block 3 (.seq (.reg [⟨(some 331), .mv (.tmp 34), none⟩,
  ⟨(some 332), .mv (.tmp 43), none⟩,
  ⟨(some 333), .iad 2 (.tmp 331) (.tmp 332), none⟩,
  ⟨(some 334), .iada 1 2 (.tmp 333) (.const (.int .i64 0)), none⟩,
  ⟨(some 335), .ld none (.tmp 334), none⟩,
  ⟨(some 336), .mv (.tmp 26), none⟩,
  ⟨(some 337), .bin .gtr (.tmp 335) (.tmp 336), none⟩,
  ⟨(some 338), .mv (.tmp 337), none⟩,
  ⟨(some 339), .mv (.tmp 43), (some (338, false))⟩,
  ⟨(some 340), .bin .gtr (.tmp 339) (.const (.int .i64 0)), (some (338, false))⟩,
  ⟨(some 341), .mv (.tmp 340), (some (338, false))⟩,
  ⟨(some 342), .mv (.tmp 34), (some (341, true))⟩,
  ⟨(some 343), .mv (.tmp 43), (some (341, true))⟩,
  ⟨(some 344), .iad 2 (.tmp 342) (.tmp 343), (some (341, true))⟩,
  ⟨(some 345), .iada 1 2 (.tmp 344) (.const (.int .i64 0)), (some (341, true))⟩,
  ⟨(some 346), .ld none (.tmp 345), (some (341, true))⟩,
  ⟨(some 347), .mv (.tmp 34), (some (341, true))⟩,
  ⟨(some 348), .mv (.tmp 43), (some (341, true))⟩,
  ⟨(some 349), .bin .sub (.tmp 348) (.const (.int .i64 1)), (some (341, true))⟩,
  ⟨(some 350), .iad 2 (.tmp 347) (.tmp 349), (some (341, true))⟩,
  ⟨(some 351), .iada 1 2 (.tmp 350) (.const (.int .i64 0)), (some (341, true))⟩,
  ⟨(some 352), .ld none (.tmp 351), (some (341, true))⟩,
  ⟨(some 353), .bin .gtr (.tmp 346) (.tmp 352), (some (341, true))⟩,
  ⟨(some 354), .pick (.tmp 341) (.tmp 353) (.const (.bool false)), (some (338, false))⟩,
  ⟨(some 355), .pick (.tmp 338) (.const (.bool true)) (.tmp 354), none⟩,
  ⟨(some 356), .mv (.tmp 355), none⟩,
  ⟨(some 357), .mv (.tmp 34), (some (356, false))⟩,
  ⟨(some 358), .mv (.tmp 43), (some (356, false))⟩,
  ⟨(some 359), .iad 2 (.tmp 357) (.tmp 358), (some (356, false))⟩,
  ⟨(some 360), .iada 1 2 (.tmp 359) (.const (.int .i64 1)), (some (356, false))⟩,
  ⟨(some 361), .ld none (.tmp 360), (some (356, false))⟩,
  ⟨(some 362), .mv (.tmp 34), (some (356, false))⟩,
  ⟨(some 363), .mv (.tmp 38), (some (356, false))⟩,
  ⟨(some 364), .fad 2 (.tmp 3), (some (356, false))⟩,
  ⟨(some 365), .ld none (.tmp 364), (some (356, false))⟩,
  ⟨(some 366), .bin .sub (.tmp 363) (.tmp 365), (some (356, false))⟩,
  ⟨(some 367), .iad 2 (.tmp 362) (.tmp 366), (some (356, false))⟩,
  ⟨(some 368), .iada 1 2 (.tmp 367) (.const (.int .i64 1)), (some (356, false))⟩,
  ⟨(some 369), .ld none (.tmp 368), (some (356, false))⟩,
  ⟨(some 370), .bin .gtr (.tmp 361) (.tmp 369), (some (356, false))⟩,
  ⟨(some 371), .pick (.tmp 356) (.const (.bool true)) (.tmp 370), none⟩])
 (.cond (.tmp 371) (.seq (.reg [⟨(some 2), .mv (.const (.bool false)), none⟩])
 (.ret)) (.skip))))
 (.reg [⟨(some 329), .mv (.tmp 43), none⟩,
  ⟨(some 330), .bin .add (.tmp 329) (.const (.int .i64 1)), none⟩,
  ⟨(some 43), .mv (.tmp 330), none⟩]))))))
 (.seq (.reg [⟨(some 2), .mv (.const (.bool true)), none⟩])
 (.ret)))))))))))))))))))))))))))
def r_laws_FnProfits : List ARes := [.tmp 2]
theorem ok_laws_FnProfits : FnOk Try.prog 3 372 c_laws_FnProfits r_laws_FnProfits := ⟨⟨Try.f3, _, Try.func3, by kernel_rfl, rfl, rfl, by kernel_rfl, by kernel_rfl⟩⟩
end Go.Proofs.Ytpedjcagaeedjaa.Ab
end
