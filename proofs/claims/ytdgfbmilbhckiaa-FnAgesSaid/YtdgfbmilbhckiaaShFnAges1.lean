/- What the law needs of the texts that it rests on. -/
import Derived.Test.YtdgfbmilbhckiaaShFnAges0
section
namespace Go.Proofs.Ytdgfbmilbhckiaa.Ab
open Go Go.RowKit
set_option linter.unusedVariables false
set_option linter.unusedSimpArgs false
set_option maxRecDepth 10000
theorem Gr.at9 {M M' : Mem} {v : Value} {l : List Int} {r : Nat} (h : Gr M v l r) (hs : l ≠ [] → M'[r]? = M[r]?) : Gr M' v l r := by
  rcases h with h | ⟨h1, h2, h3⟩
  · exact .inl h
  · exact .inr ⟨h1, h2, h3.at_ (hs h2)⟩
theorem Gr.one9 {M : Mem} {v : Value} {l : List Int} {r : Nat} (h : Gr M v l r) : v.oneCell' = true := by
  rcases h with ⟨rfl, _⟩ | ⟨rfl, _⟩ <;> rfl
abbrev shC (s : Sh) (u v : Value) : List Value := [.int .i64 s.life, u, v, .int .i64 s.waste, .int .i64 s.lost]
structure SB (M0 M : Mem) (cb id a bx : Nat) (l : List Int) (s : Sh) (u v : Value) (r1 r2 : Nat) : Prop where
  hid : id < M0.length
  hcb : cb < M0.length
  cw : Cw id M0 M
  cur : CurA M cb l id a
  box : OwnB M bx 26 (shC s u v)
  ge : M0.length ≤ bx
  g1 : Gr M u s.arr r1
  g2 : Gr M v s.need r2
  e1 : s.arr ≠ [] → M0.length ≤ r1 ∧ r1 ≠ bx
  e2 : s.need ≠ [] → M0.length ≤ r2 ∧ r2 ≠ bx
  ne : s.arr ≠ [] → s.need ≠ [] → r1 ≠ r2
section
variable {M0 M M2 : Mem} {cb id a a2 bx r1 r2 : Nat} {l : List Int} {s : Sh} {u v : Value}
theorem Gr.cw9 {lo : Nat} {w : List Int} {r : Nat} (g : Gr M v w r) (c : Cw id M M2) (hid : id < lo) (he : w ≠ [] → lo ≤ r) : Gr M2 v w r := by
  rcases g with g | ⟨g1, g2, g3⟩
  · exact .inl g
  · exact .inr ⟨g1, g2, c.own g3 (by have := he g2; omega)⟩
theorem SB.draw (h : SB M0 M cb id a bx l s u v r1 r2) (w : Cw id M M2) (k : CurA M2 cb l id a2) : SB M0 M2 cb id a2 bx l s u v r1 r2 :=
  ⟨h.hid, h.hcb, Cw.trans h.hid h.cw w, k, h.box.at_ (w.old bx (by have := h.hid; have := h.ge; omega) h.box.lt), h.ge, h.g1.cw9 w h.hid fun e => (h.e1 e).1, h.g2.cw9 w h.hid fun e => (h.e2 e).1, h.e1, h.e2, h.ne⟩
theorem SB.rd (h : SB M0 M cb id a bx l s u v r1 r2) (k : Nat) : rdc M bx k = (shC s u v)[k]? := h.box.rd k
theorem SB.life (h : SB M0 M cb id a bx l s u v r1 r2) (x : Int) : ∃ M2, stA M bx 0 [.int .i64 x] = some M2 ∧ SB M0 M2 cb id a bx l { s with life := x } u v r1 r2 := by
  have hid := h.hid
  have hcb := h.hcb
  have hge := h.ge
  exact ⟨_, h.box.st (by simp) rfl, hid, hcb, h.cw.put hge (by simp), h.cur.put (by omega) (by omega) _, h.box.set_self _ _, hge, h.g1.at9 fun e => List.getElem?_set_ne (Ne.symm (h.e1 e).2), h.g2.at9 fun e => List.getElem?_set_ne (Ne.symm (h.e2 e).2), h.e1, h.e2, h.ne⟩
theorem app9 {w : List Int} {r : Nat} {uv : Value} (hid : id < M0.length) (hcb : cb < M0.length) (cw : Cw id M0 M) (cur : CurA M cb l id a) (g : Gr M uv w r) (he : w ≠ [] → M0.length ≤ r) (hl : w.length ≤ 1000) (x : Int) : ∃ M1,
    appP (M ++ [⟨.own, 3, [.int .i64 x]⟩]) 3 1 8 uv (.slice (some ⟨M.length, 0, none⟩) 1 1) = some (.slice (some ⟨M.length + 1, 0, none⟩) (w.length + 1) 1, M1) ∧
    M1.length = M.length + 2 ∧ OwnR M1 (M.length + 1) (w ++ [x]) ∧ (∀ i, i < M.length → (w ≠ [] → i ≠ r) → M1[i]? = M[i]?) ∧ Cw id M0 M1 ∧ CurA M1 cb l id a := by
  obtain ⟨M1, h1, h2, h3, h4, h5⟩ := g.app hl x
  have same : ∀ i, i < M.length → i < M0.length → M1[i]? = M[i]? := fun i hi ho => h4 i hi fun e => by have := he e; omega
  have cl := cw.len
  refine ⟨M1, h1, h2, h3, h4, ⟨by omega, fun i e hi => (same i (by omega) hi).trans (cw.old i e hi), fun i b hi hb => ?_⟩, ?_⟩
  · by_cases e : i < M.length
    · by_cases e2 : i = r ∧ w ≠ []
      · exact h5 i b (.inl e2) hb
      · rw [h4 i e fun e3 e4 => e2 ⟨e4, e3⟩] at hb
        exact cw.new i b hi hb
    · exact h5 i b (.inr (by omega)) hb
  · obtain ⟨sd, hb⟩ := cur.box
    exact ⟨(same cb (by omega) hcb).trans cur.code, cur.byte, cur.few, sd, (same id (by omega) hid).trans hb⟩
theorem SB.app1 (h : SB M0 M cb id a bx l s u v r1 r2) (hl : s.arr.length ≤ 1000) (x : Int) : ∃ M1 M2,
    appP (M ++ [⟨.own, 3, [.int .i64 x]⟩]) 3 1 8 u (.slice (some ⟨M.length, 0, none⟩) 1 1) = some (.slice (some ⟨M.length + 1, 0, none⟩) (s.arr.length + 1) 1, M1) ∧
    stA M1 bx 1 [.slice (some ⟨M.length + 1, 0, none⟩) (s.arr.length + 1) 1] = some M2 ∧
    SB M0 M2 cb id a bx l { s with arr := s.arr ++ [x] } (.slice (some ⟨M.length + 1, 0, none⟩) (s.arr.length + 1) 1) v (M.length + 1) r2 := by
  have hid := h.hid
  have hcb := h.hcb
  have hge := h.ge
  have hbl := h.box.lt
  obtain ⟨M1, h1, h2, h3, h4, cw1, k1⟩ := app9 hid hcb h.cw h.cur h.g1 (fun e => (h.e1 e).1) hl x
  have b1 : OwnB M1 bx 26 (shC s u v) := h.box.at_ (h4 bx hbl fun e => Ne.symm (h.e1 e).2)
  have r2l : s.need ≠ [] → r2 < M.length := fun e => by
    rcases h.g2 with ⟨-, g⟩ | ⟨-, -, g⟩
    · exact absurd g e
    · exact g.lt
  refine ⟨M1, _, h1, b1.st (by simp) rfl, hid, hcb, cw1.put hge (by simp), k1.put (by omega) (by omega) _, b1.set_self _ _, hge, .inr ⟨by simp, by simp, h3.at_ (List.getElem?_set_ne (by omega))⟩, ?_, fun _ => ⟨by have := h.cw.len; omega, by omega⟩, h.e2, fun _ e => by have := r2l e; omega⟩
  exact h.g2.at9 fun e => by
    rw [List.getElem?_set_ne (Ne.symm (h.e2 e).2)]
    exact h4 r2 (r2l e) fun e1 => Ne.symm (h.ne e1 e)
theorem SB.app2 (h : SB M0 M cb id a bx l s u v r1 r2) (hl : s.need.length ≤ 1000) (x : Int) : ∃ M1 M2,
    appP (M ++ [⟨.own, 3, [.int .i64 x]⟩]) 3 1 8 v (.slice (some ⟨M.length, 0, none⟩) 1 1) = some (.slice (some ⟨M.length + 1, 0, none⟩) (s.need.length + 1) 1, M1) ∧
    stA M1 bx 2 [.slice (some ⟨M.length + 1, 0, none⟩) (s.need.length + 1) 1] = some M2 ∧
    SB M0 M2 cb id a bx l { s with need := s.need ++ [x] } u (.slice (some ⟨M.length + 1, 0, none⟩) (s.need.length + 1) 1) r1 (M.length + 1) := by
  have hid := h.hid
  have hcb := h.hcb
  have hge := h.ge
  have hbl := h.box.lt
  obtain ⟨M1, h1, h2, h3, h4, cw1, k1⟩ := app9 hid hcb h.cw h.cur h.g2 (fun e => (h.e2 e).1) hl x
  have b1 : OwnB M1 bx 26 (shC s u v) := h.box.at_ (h4 bx hbl fun e => Ne.symm (h.e2 e).2)
  have r1l : s.arr ≠ [] → r1 < M.length := fun e => by
    rcases h.g1 with ⟨-, g⟩ | ⟨-, -, g⟩
    · exact absurd g e
    · exact g.lt
  refine ⟨M1, _, h1, b1.st (by simp) rfl, hid, hcb, cw1.put hge (by simp), k1.put (by omega) (by omega) _, b1.set_self _ _, hge, ?_, .inr ⟨by simp, by simp, h3.at_ (List.getElem?_set_ne (by omega))⟩, h.e1, fun _ => ⟨by have := h.cw.len; omega, by omega⟩, fun e _ => by have := r1l e; omega⟩
  exact h.g1.at9 fun e => by
    rw [List.getElem?_set_ne (Ne.symm (h.e1 e).2)]
    exact h4 r1 (r1l e) fun e1 => h.ne e e1
theorem SB.put (h : SB M0 M cb id a bx l s u v r1 r2) (hl : s.need.length ≤ 1000) (h0 : 0 < s.need.length) (x : Int) : ∃ M2,
    iadA 1 v (.int .i64 0) = some (.pointer (some ⟨r2, 0, none⟩)) ∧ stA M r2 0 [.int .i64 x] = some M2 ∧ SB M0 M2 cb id a bx l { s with need := s.need.set 0 x } u v r1 r2 := by
  have hid := h.hid
  have hcb := h.hcb
  have hge := h.ge
  have hne : s.need ≠ [] := fun e => by rw [e] at h0; simp at h0
  obtain ⟨q1, q2⟩ := h.e2 hne
  rcases h.g2 with ⟨-, g⟩ | ⟨rfl, -, ho⟩
  · exact absurd g hne
  have i0 := (ho.ints (by omega) 1).at_ 0 h0
  have hne' : s.need.set 0 x ≠ [] := fun e => by
    have := congrArg List.length e
    simp at this
    exact hne this
  refine ⟨M.set r2 (rowB (s.need.set 0 x)), by simpa [pAt] using i0, ho.st h0, hid, hcb, h.cw.put q1 (by simp), h.cur.put (by omega) (by omega) _, h.box.set_ne q2 _, hge, ?_, .inr ⟨by simp, hne', ho.set_self⟩, h.e1, fun _ => ⟨q1, q2⟩, fun e _ => h.ne e hne⟩
  exact h.g1.at9 fun e => List.getElem?_set_ne (Ne.symm (h.ne e hne))
end
def LivesSh (lo : Nat) (M : Mem) (v : Value) (s : Sh) : Prop := ∀ M3 : Mem, (∀ i, lo ≤ i → i < M.length → M3[i]? = M[i]?) → ShA M3 v s
theorem LivesSh.here {lo : Nat} {M : Mem} {v : Value} {s : Sh} (h : LivesSh lo M v s) : ShA M v s := h M fun _ _ _ => rfl
theorem LivesSh.cw {lo id : Nat} {M M' : Mem} {v : Value} {s : Sh} (h : LivesSh lo M v s) (hid : id < lo) (c : Cw id M M') : LivesSh lo M' v s := fun M3 h3 =>
  h M3 fun i h1 h2 => (h3 i h1 (Nat.lt_of_lt_of_le h2 c.len)).trans (c.old i (by omega) h2)
theorem LivesSh.up {lo : Nat} {M M' : Mem} {v : Value} {s : Sh} (h : LivesSh lo M v s) (hl : M.length ≤ M'.length) (he : ∀ i, lo ≤ i → i < M.length → M'[i]? = M[i]?) : LivesSh lo M' v s := fun M3 h3 =>
  h M3 fun i h1 h2 => (h3 i h1 (by omega)).trans (he i h1 h2)
theorem SB.fin {M N : Mem} {cb id a bx r1 r2 : Nat} {l : List Int} {s : Sh} {u v : Value} (h : SB (M ++ [⟨.own, 26, [.int .i64 0, .slice none 0 0, .slice none 0 0, .int .i64 0, .int .i64 0]⟩]) N cb id a bx l s u v r1 r2) (hid : id < M.length) (hcb : cb < M.length) (l1 : s.arr.length ≤ 1000) (l2 : s.need.length ≤ 1000) : ∃ N2,
    stA N M.length 0 [.int .i64 s.life, u, v, .int .i64 s.waste, .int .i64 s.lost] = some N2 ∧ (∀ k, rdc N2 M.length k = (shC s u v)[k]?) ∧ LivesSh M.length N2 (shV s u v) s ∧ Cw id M N2 ∧ CurA N2 cb l id a := by
  have hge := h.ge
  have hcl := h.cw.len
  have hlen : (M ++ [(⟨.own, 26, [.int .i64 0, .slice none 0 0, .slice none 0 0, .int .i64 0, .int .i64 0]⟩ : Blk)]).length = M.length + 1 := by simp
  rw [hlen] at hge hcl
  have c : OwnB N M.length 26 [.int .i64 0, .slice none 0 0, .slice none 0 0, .int .i64 0, .int .i64 0] := (h.cw.old M.length (by omega) (by simp)).trans (by simp)
  have o5 : onesB [.int .i64 s.life, u, v, .int .i64 s.waste, .int .i64 s.lost] = true := by
    simp [onesB, h.g1.one9, h.g2.one9]
    exact ⟨rfl, rfl, rfl⟩
  have w0 : Cw id M N := h.cw.pre (noRo_own noRo_nil) hid
  refine ⟨_, c.st (by simp) o5, fun k => (c.set_self _ _).rd k, fun M3 h3 => ⟨u, v, rfl, ?_, ?_⟩, w0.put (Nat.le_refl _) (by simp), h.cur.put (by omega) (by omega) _⟩
  · refine Gr.ints (r := r1) (h.g1.at9 fun e => ?_) l1
    have g := (h.e1 e).1
    rw [hlen] at g
    have hl : r1 < N.length := by
      rcases h.g1 with ⟨-, e2⟩ | ⟨-, -, ho⟩
      · exact absurd e2 e
      · exact ho.lt
    rw [h3 r1 (by omega) (by simpa using hl), List.getElem?_set_ne (by omega)]
  · refine Gr.ints (r := r2) (h.g2.at9 fun e => ?_) l2
    have g := (h.e2 e).1
    rw [hlen] at g
    have hl : r2 < N.length := by
      rcases h.g2 with ⟨-, e2⟩ | ⟨-, -, ho⟩
      · exact absurd e2 e
      · exact ho.lt
    rw [h3 r2 (by omega) (by simpa using hl), List.getElem?_set_ne (by omega)]

theorem bD9 (m : Mem) : bslA m 3 1 9 [.int .i64 0, .int .i64 0, .int .i64 0, .int .i64 0, .int .i64 0, .int .i64 0, .int .i64 0, .int .i64 0, .int .i64 0] [(0, 1, .int .i64 1), (1, 1, .int .i64 2), (2, 1, .int .i64 3), (3, 1, .int .i64 5), (4, 1, .int .i64 0), (5, 1, .int .i64 8), (6, 1, .int .i64 20), (7, 1, .int .i64 21), (8, 1, .int .i64 (-1))] = some (.slice (some ⟨m.length, 0, none⟩) 9 1, m ++ [rowB [1, 2, 3, 5, 0, 8, 20, 21, -1]]) := rfl
theorem charge9_ac (M : Mem) (cb id a : Nat) (l : List Int) (h : CurA M cb l id a) (ha : a ≤ 999999000) :
    AC Try.prog 105 [.pointer (some ⟨id, 0, none⟩)] M fun v M' => ∃ (x : Int) (a' : Nat), v = .int .i64 x ∧ a' ≤ a + 10 ∧ Cw id M M' ∧ CurA M' cb l id a' := by
  refine ac_of_run mixed ok_spec_l1Cur__charge (by simp) (go_start _ _ _ ?_)
  have hid := h.lt
  have hcb := h.cblt
  simp (config := {implicitDefEqProofs := false, maxDischargeDepth := 20}) (disch := first | omega | (simp only [lenE]; done) | (simp only [lenE]; omega) | rfl | (simp only [lenE, markR_len]; done) | (simp only [lenE, markR_len]; omega)) only [runE, mapE, listE, initT_5, initT_6, initT_7, initT_8, resV, oneV, binA, unA, reduceCtorEq, Nat.reduceEqDiff, Nat.reduceAdd, Nat.reduceLT, Nat.reduceLeDiff, Nat.reduceMul, Nat.reduceSub, ↓reduceIte, decide_true, decide_false, Bool.true_eq_false, Bool.false_eq_true, Bool.not_true, Bool.not_false, if_true, if_false, and_true, true_and, memE, celE, w64, Nat.zero_add, Nat.add_zero, Nat.mul_one, putL, and_self, ldn, c_spec_l1Cur__charge, r_spec_l1Cur__charge, bD9]
  have d0 := Dr.new hid hcb (Cw.refl id M) h (r := M.length) rfl [1, 2, 3, 5, 0, 8, 20, 21, -1]
  refine callH_ac (pick_ac _ cb id a l 24 d0.cur (by omega) (by omega) (by omega)) ?_
  rintro v M1 ⟨y, rfl, hy0, hy1, w1, a1, ha1, k1⟩
  have d1 := d0.draw w1 k1
  have q0 : 0 ≤ y.tdiv 11 ∧ y.tdiv 11 ≤ 2 := by
    rw [Int.tdiv_eq_ediv_of_nonneg hy0]; omega
  obtain ⟨n, hn, hn9⟩ : ∃ n : Nat, 7 + y.tdiv 11 = n ∧ n ≤ 9 := ⟨(7 + y.tdiv 11).toNat, by omega, by omega⟩
  have hi := d1.own.ints (by simp) 1
  obtain ⟨u, eu, hu⟩ := hi.pre (hi := n) (by simpa using hn9)
  have d11 : ¬ ((11 : Int) = 0) := by decide
  rw [show (([1, 2, 3, 5, 0, 8, 20, 21, -1] : List Int).length) = 9 from rfl] at eu
  simp (config := {implicitDefEqProofs := false, maxDischargeDepth := 20}) (disch := first | omega | (simp only [lenE]; done) | (simp only [lenE]; omega) | rfl | (simp only [lenE, markR_len]; done) | (simp only [lenE, markR_len]; omega)) only [runE, mapE, listE, initT_5, initT_6, initT_7, initT_8, resV, oneV, binA, unA, reduceCtorEq, Nat.reduceEqDiff, Nat.reduceAdd, Nat.reduceLT, Nat.reduceLeDiff, Nat.reduceMul, Nat.reduceSub, ↓reduceIte, decide_true, decide_false, Bool.true_eq_false, Bool.false_eq_true, Bool.not_true, Bool.not_false, if_true, if_false, and_true, true_and, memE, celE, w64, Nat.zero_add, Nat.add_zero, Nat.mul_one, putL, and_self, ldn, hn, Option.map_none, eu, d11]
  have hcl : (cutL [1, 2, 3, 5, 0, 8, 20, 21, -1] 0 n).length = n := by rw [cutL_len (by simpa using hn9), Nat.sub_zero]
  refine callH_ac (among_ac M1 cb id a1 l u _ d1.cur (by omega) hu (fun M' w => ?_) (by omega) (by omega)) ?_
  · obtain ⟨u', eu', hu'⟩ := ((w.own d1.own (by have := d1.ge; omega)).ints (by simp) 1).pre (hi := n) (by simpa using hn9)
    rw [show (([1, 2, 3, 5, 0, 8, 20, 21, -1] : List Int).length) = 9 from rfl, eu] at eu'
    cases eu'
    exact hu'
  rintro v M2 ⟨x, hx, rfl, w2, a2, ha2, k2⟩
  simp (config := {implicitDefEqProofs := false, maxDischargeDepth := 20}) (disch := first | omega | (simp only [lenE]; done) | (simp only [lenE]; omega) | rfl | (simp only [lenE, markR_len]; done) | (simp only [lenE, markR_len]; omega)) only [runE, mapE, listE, initT_5, initT_6, initT_7, initT_8, resV, oneV, binA, unA, reduceCtorEq, Nat.reduceEqDiff, Nat.reduceAdd, Nat.reduceLT, Nat.reduceLeDiff, Nat.reduceMul, Nat.reduceSub, ↓reduceIte, decide_true, decide_false, Bool.true_eq_false, Bool.false_eq_true, Bool.not_true, Bool.not_false, if_true, if_false, and_true, true_and, memE, celE, w64, Nat.zero_add, Nat.add_zero, Nat.mul_one, putL, and_self, ldn]
  exact ⟨x, a2, rfl, by omega, (d1.draw w2 k2).cw, k2⟩
theorem b6s1 (m : Mem) : bslA m 3 1 6 [.int .i64 0, .int .i64 0, .int .i64 0, .int .i64 0, .int .i64 0, .int .i64 0] [(0, 1, .int .i64 2), (1, 1, .int .i64 3), (2, 1, .int .i64 1), (3, 1, .int .i64 2), (4, 1, .int .i64 4), (5, 1, .int .i64 8)] = some (.slice (some ⟨m.length, 0, none⟩) 6 1, m ++ [rowB [2, 3, 1, 2, 4, 8]]) := rfl
theorem b7s1 (m : Mem) : bslA m 3 1 7 [.int .i64 0, .int .i64 0, .int .i64 0, .int .i64 0, .int .i64 0, .int .i64 0, .int .i64 0] [(0, 1, .int .i64 4), (1, 1, .int .i64 5), (2, 1, .int .i64 3), (3, 1, .int .i64 6), (4, 1, .int .i64 2), (5, 1, .int .i64 1), (6, 1, .int .i64 0)] = some (.slice (some ⟨m.length, 0, none⟩) 7 1, m ++ [rowB [4, 5, 3, 6, 2, 1, 0]]) := rfl
theorem b6s2 (m : Mem) : bslA m 3 1 6 [.int .i64 0, .int .i64 0, .int .i64 0, .int .i64 0, .int .i64 0, .int .i64 0] [(0, 1, .int .i64 2), (1, 1, .int .i64 3), (2, 1, .int .i64 0), (3, 1, .int .i64 5), (4, 1, .int .i64 1), (5, 1, .int .i64 8)] = some (.slice (some ⟨m.length, 0, none⟩) 6 1, m ++ [rowB [2, 3, 0, 5, 1, 8]]) := rfl
theorem b6s3 (m : Mem) : bslA m 3 1 6 [.int .i64 0, .int .i64 0, .int .i64 0, .int .i64 0, .int .i64 0, .int .i64 0] [(0, 1, .int .i64 2), (1, 1, .int .i64 3), (2, 1, .int .i64 0), (3, 1, .int .i64 5), (4, 1, .int .i64 1), (5, 1, .int .i64 6)] = some (.slice (some ⟨m.length, 0, none⟩) 6 1, m ++ [rowB [2, 3, 0, 5, 1, 6]]) := rfl
theorem b3s1 (m : Mem) : bslA m 3 1 3 [.int .i64 0, .int .i64 0, .int .i64 0] [(0, 1, .int .i64 0), (1, 1, .int .i64 9), (2, 1, .int .i64 (-1))] = some (.slice (some ⟨m.length, 0, none⟩) 3 1, m ++ [rowB [0, 9, -1]]) := rfl
theorem b3s2 (m : Mem) : bslA m 3 1 3 [.int .i64 0, .int .i64 0, .int .i64 0] [(0, 1, .int .i64 (-1)), (1, 1, .int .i64 20), (2, 1, .int .i64 21)] = some (.slice (some ⟨m.length, 0, none⟩) 3 1, m ++ [rowB [-1, 20, 21]]) := rfl
theorem b1s (m : Mem) (x : Int) : bslA m 3 1 1 [.int .i64 0] [(0, 1, .int .i64 x)] = some (.slice (some ⟨m.length, 0, none⟩) 1 1, m ++ [⟨.own, 3, [.int .i64 x]⟩]) := rfl
theorem bld_s1 (x y z : Int) : bldA [.int .i64 0, .slice none 0 0, .slice none 0 0, .int .i64 0, .int .i64 0] [(0, 1, .int .i64 x), (3, 1, .int .i64 y), (4, 1, .int .i64 z)] = some (.agg #[.int .i64 x, .slice none 0 0, .slice none 0 0, .int .i64 y, .int .i64 z]) := rfl
theorem stP5s (m : Mem) (id off : Nat) (u v w x y : Value) : stP m 5 (.pointer (some ⟨id, off, none⟩)) (.agg #[u, v, w, x, y]) = stA m id off [u, v, w, x, y] := rfl
theorem Gr.len9 {M : Mem} {v : Value} {l : List Int} {r : Nat} (h : Gr M v l r) : lenA v = some (.int .i64 l.length) := by
  rcases h with ⟨rfl, rfl⟩ | ⟨rfl, _⟩ <;> rfl
theorem Gr.lenOf9 {M : Mem} {v : Value} {l : List Int} {r : Nat} (h : Gr M v l r) : lenOfA v = l.length := by
  rcases h with ⟨rfl, rfl⟩ | ⟨rfl, _⟩ <;> rfl
set_option maxHeartbeats 8000000 in
theorem shelf_ac (M : Mem) (cb id a : Nat) (l : List Int) (h : CurA M cb l id a) (ha : a ≤ 999000000) :
    AC Try.prog 67 [.pointer (some ⟨id, 0, none⟩)] M fun r M' => ∃ s : Sh, ((s.arr.length ≤ 100 ∧ s.need.length ≤ 100) ∧ LivesSh M.length M' r s) ∧ Cw id M M' ∧ ∃ a', a' ≤ a + 1000 ∧ CurA M' cb l id a' := by
  refine ac_of_run mixed ok_spec_l1Cur__shelf (by simp) (go_start _ _ _ ?_)
  have hid := h.lt
  have hcb := h.cblt
  simp (config := {implicitDefEqProofs := false, maxDischargeDepth := 20}) (disch := first | omega | (simp only [lenE]; done) | (simp only [lenE]; omega) | rfl | (simp only [lenE, markR_len]; done) | (simp only [lenE, markR_len]; omega)) only [runE, mapE, listE, initT_5, initT_6, initT_7, initT_8, resV, oneV, binA, unA, reduceCtorEq, Nat.reduceEqDiff, Nat.reduceAdd, Nat.reduceLT, Nat.reduceLeDiff, Nat.reduceMul, Nat.reduceSub, ↓reduceIte, decide_true, decide_false, Bool.true_eq_false, Bool.false_eq_true, Bool.not_true, Bool.not_false, if_true, if_false, and_true, true_and, memE, celE, w64, Nat.zero_add, Nat.add_zero, Nat.mul_one, putL, and_self, ldn, c_spec_l1Cur__shelf, r_spec_l1Cur__shelf, b6s1]
  obtain ⟨E, hE⟩ : ∃ E, E = M ++ [⟨.own, 26, [.int .i64 0, .slice none 0 0, .slice none 0 0, .int .i64 0, .int .i64 0]⟩] := ⟨_, rfl⟩
  have hEl : E.length = M.length + 1 := by rw [hE]; simp
  have kE : CurA E cb l id a := by rw [hE]; exact h.ext _
  rw [← hE]
  refine callH_ac (among_new E cb id a l [2, 3, 1, 2, 4, 8] kE (by omega) (by omega) rfl (by simp) (by simp)) ?_
  rintro r M1 ⟨x1, -, rfl, w1, a1, ha1, k1⟩
  simp (config := {implicitDefEqProofs := false, maxDischargeDepth := 20}) (disch := first | omega | (simp only [lenE]; done) | (simp only [lenE]; omega) | rfl | (simp only [lenE, markR_len]; done) | (simp only [lenE, markR_len]; omega)) only [runE, mapE, listE, initT_5, initT_6, initT_7, initT_8, resV, oneV, binA, unA, reduceCtorEq, Nat.reduceEqDiff, Nat.reduceAdd, Nat.reduceLT, Nat.reduceLeDiff, Nat.reduceMul, Nat.reduceSub, ↓reduceIte, decide_true, decide_false, Bool.true_eq_false, Bool.false_eq_true, Bool.not_true, Bool.not_false, if_true, if_false, and_true, true_and, memE, celE, w64, Nat.zero_add, Nat.add_zero, Nat.mul_one, putL, and_self, ldn]
  refine callH_ac (charge9_ac M1 cb id a1 l k1 (by omega)) ?_
  rintro r M2 ⟨x2, a2, rfl, ha2, w2, k2⟩
  simp (config := {implicitDefEqProofs := false, maxDischargeDepth := 20}) (disch := first | omega | (simp only [lenE]; done) | (simp only [lenE]; omega) | rfl | (simp only [lenE, markR_len]; done) | (simp only [lenE, markR_len]; omega)) only [runE, mapE, listE, initT_5, initT_6, initT_7, initT_8, resV, oneV, binA, unA, reduceCtorEq, Nat.reduceEqDiff, Nat.reduceAdd, Nat.reduceLT, Nat.reduceLeDiff, Nat.reduceMul, Nat.reduceSub, ↓reduceIte, decide_true, decide_false, Bool.true_eq_false, Bool.false_eq_true, Bool.not_true, Bool.not_false, if_true, if_false, and_true, true_and, memE, celE, w64, Nat.zero_add, Nat.add_zero, Nat.mul_one, putL, and_self, ldn]
  refine callH_ac (charge9_ac M2 cb id a2 l k2 (by omega)) ?_
  rintro r M3 ⟨x3, a3, rfl, ha3, w3, k3⟩
  have w03 : Cw id E M3 := Cw.trans (by omega) w1 (Cw.trans (by have := w1.len; omega) w2 w3)
  have st0 : stA (M3 ++ [⟨.own, 26, [.int .i64 0, .slice none 0 0, .slice none 0 0, .int .i64 0, .int .i64 0]⟩]) M3.length 0 [.int .i64 x1, .slice none 0 0, .slice none 0 0, .int .i64 x2, .int .i64 x3] = some (M3 ++ [⟨.own, 26, [.int .i64 x1, .slice none 0 0, .slice none 0 0, .int .i64 x2, .int .i64 x3]⟩]) := by
    rw [(OwnB.here rfl).st (by simp) rfl]
    simp
    rfl
  simp (config := {implicitDefEqProofs := false, maxDischargeDepth := 20}) (disch := first | omega | (simp only [lenE]; done) | (simp only [lenE]; omega) | rfl | (simp only [lenE, markR_len]; done) | (simp only [lenE, markR_len]; omega)) only [runE, mapE, listE, initT_5, initT_6, initT_7, initT_8, resV, oneV, binA, unA, reduceCtorEq, Nat.reduceEqDiff, Nat.reduceAdd, Nat.reduceLT, Nat.reduceLeDiff, Nat.reduceMul, Nat.reduceSub, ↓reduceIte, decide_true, decide_false, Bool.true_eq_false, Bool.false_eq_true, Bool.not_true, Bool.not_false, if_true, if_false, and_true, true_and, memE, celE, w64, Nat.zero_add, Nat.add_zero, Nat.mul_one, putL, and_self, ldn, bld_s1, stP5s, st0, b7s1]
  obtain ⟨bx, hbx⟩ : ∃ bx, bx = M3.length := ⟨_, rfl⟩
  have S0 : SB E (M3 ++ [⟨.own, 26, [.int .i64 x1, .slice none 0 0, .slice none 0 0, .int .i64 x2, .int .i64 x3]⟩]) cb id a3 bx l ⟨x1, [], [], x2, x3⟩ (.slice none 0 0) (.slice none 0 0) 0 0 :=
    ⟨by omega, by omega, w03.ext (noRo_own noRo_nil), k3.ext _, OwnB.here hbx, by have := w03.len; omega, .inl ⟨rfl, rfl⟩, .inl ⟨rfl, rfl⟩, fun e => absurd rfl e, fun e => absurd rfl e, fun e => absurd rfl e⟩
  have l30 : (M3 ++ [(⟨.own, 26, [.int .i64 x1, .slice none 0 0, .slice none 0 0, .int .i64 x2, .int .i64 x3]⟩ : Blk)]).length = bx + 1 := by rw [hbx]; simp
  rw [← hbx]
  obtain ⟨N0, hN0⟩ : ∃ N, N = M3 ++ [(⟨.own, 26, [.int .i64 x1, .slice none 0 0, .slice none 0 0, .int .i64 x2, .int .i64 x3]⟩ : Blk)] := ⟨_, rfl⟩
  rw [← hN0] at S0 l30 ⊢
  clear hN0 hbx st0
  refine callH_ac (among_new N0 cb id a3 l [4, 5, 3, 6, 2, 1, 0] S0.cur (by omega) (by omega) rfl (by simp) (by simp)) ?_
  rintro r N1 ⟨n0, hn0, rfl, w4, a4, ha4, k4⟩
  have S1 := S0.draw w4 k4
  clear S0
  obtain ⟨n, rfl, hn6⟩ : ∃ n : Nat, n0 = n ∧ n ≤ 6 := ⟨n0.toNat, by simp at hn0; omega, by simp at hn0; omega⟩
  clear hn0
  simp (config := {implicitDefEqProofs := false, maxDischargeDepth := 20}) (disch := first | omega | (simp only [lenE]; done) | (simp only [lenE]; omega) | rfl | (simp only [lenE, markR_len]; done) | (simp only [lenE, markR_len]; omega)) only [runE, mapE, listE, initT_5, initT_6, initT_7, initT_8, resV, oneV, binA, unA, reduceCtorEq, Nat.reduceEqDiff, Nat.reduceAdd, Nat.reduceLT, Nat.reduceLeDiff, Nat.reduceMul, Nat.reduceSub, ↓reduceIte, decide_true, decide_false, Bool.true_eq_false, Bool.false_eq_true, Bool.not_true, Bool.not_false, if_true, if_false, and_true, true_and, memE, celE, w64, Nat.zero_add, Nat.add_zero, Nat.mul_one, putL, and_self, ldn]
  refine loop_inv mixed (fun s => ∃ (j : Nat) (N : Mem) (a' : Nat) (sh : Sh) (u v : Value) (r1 r2 : Nat), j ≤ 6 ∧ s.m = N ∧ SB E N cb id a' bx l sh u v r1 r2 ∧ sh.arr.length + j ≤ 6 ∧ sh.need.length + j ≤ 6 ∧ a' + 10 * j ≤ a + 200 ∧ s.t 0 = .pointer (some ⟨id, 0, none⟩) ∧ s.t 2 = .pointer (some ⟨M.length, 0, none⟩) ∧ s.t 3 = .pointer (some ⟨bx, 0, none⟩) ∧ s.t 4 = .int .i64 (j : Int)) (fun s => (intOf (s.t 4)).toNat)
    ⟨n, N1, a4, _, _, _, _, _, hn6, rfl, S1, by simpa using hn6, by simpa using hn6, by omega, rfl, rfl, rfl, rfl⟩ ?_
  clear S1 k4 w4 ha4 hn6 k1 k2 k3 w1 w2 w3 w03 kE
  rintro s ⟨j, N, a', sh, u, v, r1, r2, hj, tm, S, la, ln, hab, t0, t2, t3, t4⟩
  by_cases hlt : 0 < j
  · have hlt' : (0 : Int) < j := by omega
    have p1 : rdc N bx 1 = some u := S.rd 1
    have pe1 : rdc (N ++ [rowB [2, 3, 0, 5, 1, 8]]) bx 1 = some u := rdc_ext p1
    simp (config := {implicitDefEqProofs := false, maxDischargeDepth := 20}) (disch := first | omega | (simp only [lenE]; done) | (simp only [lenE]; omega) | rfl | (simp only [lenE, markR_len]; done) | (simp only [lenE, markR_len]; omega)) only [runE, mapE, listE, initT_5, initT_6, initT_7, initT_8, resV, oneV, binA, unA, reduceCtorEq, Nat.reduceEqDiff, Nat.reduceAdd, Nat.reduceLT, Nat.reduceLeDiff, Nat.reduceMul, Nat.reduceSub, ↓reduceIte, decide_true, decide_false, Bool.true_eq_false, Bool.false_eq_true, Bool.not_true, Bool.not_false, if_true, if_false, and_true, true_and, memE, celE, w64, Nat.zero_add, Nat.add_zero, Nat.mul_one, putL, and_self, ldn, tm, t0, t2, t3, t4, gt_iff_lt, hlt', p1, pe1, b6s2]
    with_reducible refine ⟨?_, ?_, ?_⟩
    all_goals
      refine callH_ac (among_new N cb id a' l [2, 3, 0, 5, 1, 8] S.cur (by omega) rfl rfl (by simp) (by simp)) ?_
      rintro r P1 ⟨y1, -, rfl, c1, b1, hb1, f1⟩
      have S2 := S.draw c1 f1
      have p1' : rdc P1 bx 1 = some u := S2.rd 1
      obtain ⟨Q1, Q2, ap, sto, S3⟩ := S2.app1 (by omega) y1
      have p2 : rdc Q2 bx 2 = some v := S3.rd 2
      have pe2 : rdc (Q2 ++ [rowB [2, 3, 0, 5, 1, 6]]) bx 2 = some v := rdc_ext p2
      simp (config := {implicitDefEqProofs := false, maxDischargeDepth := 20}) (disch := first | omega | (simp only [lenE]; done) | (simp only [lenE]; omega) | rfl | (simp only [lenE, markR_len]; done) | (simp only [lenE, markR_len]; omega)) only [runE, mapE, listE, initT_5, initT_6, initT_7, initT_8, resV, oneV, binA, unA, reduceCtorEq, Nat.reduceEqDiff, Nat.reduceAdd, Nat.reduceLT, Nat.reduceLeDiff, Nat.reduceMul, Nat.reduceSub, ↓reduceIte, decide_true, decide_false, Bool.true_eq_false, Bool.false_eq_true, Bool.not_true, Bool.not_false, if_true, if_false, and_true, true_and, memE, celE, w64, Nat.zero_add, Nat.add_zero, Nat.mul_one, putL, and_self, ldn, t0, t2, t3, t4, p1', b1s, ap, sto, p2, pe2, b6s3]
      with_reducible refine ⟨?_, ?_, ?_⟩
    all_goals
      refine callH_ac (among_new Q2 cb id b1 l [2, 3, 0, 5, 1, 6] S3.cur (by omega) rfl rfl (by simp) (by simp)) ?_
      rintro r P2 ⟨y2, -, rfl, c2, b2, hb2, f2⟩
      have S4 := S3.draw c2 f2
      have p2' : rdc P2 bx 2 = some v := S4.rd 2
      obtain ⟨Q3, Q4, ap2, sto2, S5⟩ := S4.app2 (show sh.need.length ≤ 1000 by omega) y2
      simp (config := {implicitDefEqProofs := false, maxDischargeDepth := 20}) (disch := first | omega | (simp only [lenE]; done) | (simp only [lenE]; omega) | rfl | (simp only [lenE, markR_len]; done) | (simp only [lenE, markR_len]; omega)) only [runE, mapE, listE, initT_5, initT_6, initT_7, initT_8, resV, oneV, binA, unA, reduceCtorEq, Nat.reduceEqDiff, Nat.reduceAdd, Nat.reduceLT, Nat.reduceLeDiff, Nat.reduceMul, Nat.reduceSub, ↓reduceIte, decide_true, decide_false, Bool.true_eq_false, Bool.false_eq_true, Bool.not_true, Bool.not_false, if_true, if_false, and_true, true_and, memE, celE, w64, Nat.zero_add, Nat.add_zero, Nat.mul_one, putL, and_self, ldn, t0, t2, t3, t4, p2', b1s, ap2, sto2]
      exact ⟨⟨j - 1, Q4, b2, _, _, _, _, _, by omega, rfl, S5, by simp; omega, by simp; omega, by omega, by congr 1; omega⟩, by simp only [intOf]; omega⟩
  · have hlt' : ¬ ((0 : Int) < j) := by omega
    simp (config := {implicitDefEqProofs := false, maxDischargeDepth := 20}) (disch := first | omega | (simp only [lenE]; done) | (simp only [lenE]; omega) | rfl | (simp only [lenE, markR_len]; done) | (simp only [lenE, markR_len]; omega)) only [runE, mapE, listE, initT_5, initT_6, initT_7, initT_8, resV, oneV, binA, unA, reduceCtorEq, Nat.reduceEqDiff, Nat.reduceAdd, Nat.reduceLT, Nat.reduceLeDiff, Nat.reduceMul, Nat.reduceSub, ↓reduceIte, decide_true, decide_false, Bool.true_eq_false, Bool.false_eq_true, Bool.not_true, Bool.not_false, if_true, if_false, and_true, true_and, memE, celE, w64, Nat.zero_add, Nat.add_zero, Nat.mul_one, putL, and_self, ldn, tm, t0, t2, t3, t4, gt_iff_lt, hlt']
    refine callH_ac (pick_ac N cb id a' l 40 S.cur (by omega) (by omega) (by omega)) ?_
    rintro r P ⟨x, rfl, hx0, hx1, c1, b1, hb1, f1⟩
    have S := S.draw c1 f1
    have T0 : ∀ {k : Nat} {v : Value}, s.t k = v → s.t k = v := fun h => h
    by_cases x0 : x = 0
    · subst x0
      simp (config := {implicitDefEqProofs := false, maxDischargeDepth := 20}) (disch := first | omega | (simp only [lenE]; done) | (simp only [lenE]; omega) | rfl | (simp only [lenE, markR_len]; done) | (simp only [lenE, markR_len]; omega)) only [runE, mapE, listE, initT_5, initT_6, initT_7, initT_8, resV, oneV, binA, unA, reduceCtorEq, Nat.reduceEqDiff, Nat.reduceAdd, Nat.reduceLT, Nat.reduceLeDiff, Nat.reduceMul, Nat.reduceSub, ↓reduceIte, decide_true, decide_false, Bool.true_eq_false, Bool.false_eq_true, Bool.not_true, Bool.not_false, if_true, if_false, and_true, true_and, memE, celE, w64, Nat.zero_add, Nat.add_zero, Nat.mul_one, putL, and_self, ldn, t0, t2, t3, b3s1, beq_self_eq_true]
      refine callH_ac (among_new P cb id b1 l [0, 9, -1] S.cur (by omega) rfl rfl (by simp) (by simp)) ?_
      rintro r P1 ⟨y, -, rfl, c2, b2, hb2, f2⟩
      have S := S.draw c2 f2
      obtain ⟨Q, sto, S⟩ := S.life y
      rw [hE] at S
      obtain ⟨Q9, sf, rf, lv, cwf, kf⟩ := S.fin hid hcb (by first | omega | (simp; omega)) (by first | omega | (simp; omega))
      have z0 := S.rd 0
      have z1 := S.rd 1
      have z2 := S.rd 2
      have z3 := S.rd 3
      have z4 := S.rd 4
      have y0 := rf 0
      have y1 := rf 1
      have y2 := rf 2
      have y3 := rf 3
      have y4 := rf 4
      simp only [shC, List.getElem?_cons_zero, List.getElem?_cons_succ] at z0 z1 z2 z3 z4 y0 y1 y2 y3 y4
      simp (config := {implicitDefEqProofs := false, maxDischargeDepth := 20}) (disch := first | omega | (simp only [lenE]; done) | (simp only [lenE]; omega) | rfl | (simp only [lenE, markR_len]; done) | (simp only [lenE, markR_len]; omega)) only [runE, mapE, listE, initT_5, initT_6, initT_7, initT_8, resV, oneV, binA, unA, reduceCtorEq, Nat.reduceEqDiff, Nat.reduceAdd, Nat.reduceLT, Nat.reduceLeDiff, Nat.reduceMul, Nat.reduceSub, ↓reduceIte, decide_true, decide_false, Bool.true_eq_false, Bool.false_eq_true, Bool.not_true, Bool.not_false, if_true, if_false, and_true, true_and, memE, celE, w64, Nat.zero_add, Nat.add_zero, Nat.mul_one, putL, and_self, ldn, t0, t2, t3, beq_self_eq_true, sto, z0, z1, z2, z3, z4, stP5s, sf, y0, y1, y2, y3, y4]
      exact ⟨_, ⟨⟨by first | omega | (simp; omega), by first | omega | (simp; omega)⟩, lv⟩, cwf, _, by omega, kf⟩
    · have x0' : (x == 0) = false := by simp [x0]
      by_cases x1 : x = 1
      · subst x1
        have p2 : rdc P bx 2 = some v := S.rd 2
        obtain ⟨Q1, Q, ap, sto, S⟩ := S.app2 (by omega) 1
        rw [hE] at S
        obtain ⟨Q9, sf, rf, lv, cwf, kf⟩ := S.fin hid hcb (by first | omega | (simp; omega)) (by first | omega | (simp; omega))
        have z0 := S.rd 0
        have z1 := S.rd 1
        have z2 := S.rd 2
        have z3 := S.rd 3
        have z4 := S.rd 4
        have y0 := rf 0
        have y1 := rf 1
        have y2 := rf 2
        have y3 := rf 3
        have y4 := rf 4
        simp only [shC, List.getElem?_cons_zero, List.getElem?_cons_succ] at z0 z1 z2 z3 z4 y0 y1 y2 y3 y4
        simp (config := {implicitDefEqProofs := false, maxDischargeDepth := 20}) (disch := first | omega | (simp only [lenE]; done) | (simp only [lenE]; omega) | rfl | (simp only [lenE, markR_len]; done) | (simp only [lenE, markR_len]; omega)) only [runE, mapE, listE, initT_5, initT_6, initT_7, initT_8, resV, oneV, binA, unA, reduceCtorEq, Nat.reduceEqDiff, Nat.reduceAdd, Nat.reduceLT, Nat.reduceLeDiff, Nat.reduceMul, Nat.reduceSub, ↓reduceIte, decide_true, decide_false, Bool.true_eq_false, Bool.false_eq_true, Bool.not_true, Bool.not_false, if_true, if_false, and_true, true_and, memE, celE, w64, Nat.zero_add, Nat.add_zero, Nat.mul_one, putL, and_self, ldn, t0, t2, t3, beq_self_eq_true, sto, x0', p2, b1s, ap, z0, z1, z2, z3, z4, stP5s, sf, y0, y1, y2, y3, y4]
        exact ⟨_, ⟨⟨by first | omega | (simp; omega), by first | omega | (simp; omega)⟩, lv⟩, cwf, _, by omega, kf⟩
      · have x1' : (x == 1) = false := by simp [x1]
        by_cases x2 : x = 2
        · subst x2
          have p2 : rdc P bx 2 = some v := S.rd 2
          have ln2 := S.g2.len9
          by_cases hn0 : 0 < sh.need.length
          · have hn0' : (0 : Int) < (sh.need.length : Int) := by omega
            have pe2 : rdc (P ++ [rowB [-1, 20, 21]]) bx 2 = some v := rdc_ext p2
            simp (config := {implicitDefEqProofs := false, maxDischargeDepth := 20}) (disch := first | omega | (simp only [lenE]; done) | (simp only [lenE]; omega) | rfl | (simp only [lenE, markR_len]; done) | (simp only [lenE, markR_len]; omega)) only [runE, mapE, listE, initT_5, initT_6, initT_7, initT_8, resV, oneV, binA, unA, reduceCtorEq, Nat.reduceEqDiff, Nat.reduceAdd, Nat.reduceLT, Nat.reduceLeDiff, Nat.reduceMul, Nat.reduceSub, ↓reduceIte, decide_true, decide_false, Bool.true_eq_false, Bool.false_eq_true, Bool.not_true, Bool.not_false, if_true, if_false, and_true, true_and, memE, celE, w64, Nat.zero_add, Nat.add_zero, Nat.mul_one, putL, and_self, ldn, t0, t2, t3, beq_self_eq_true, x0', x1', p2, pe2, ln2, gt_iff_lt, hn0', b3s2]
            with_reducible refine ⟨?_, ?_, ?_⟩
            all_goals
              refine callH_ac (among_new P cb id b1 l [-1, 20, 21] S.cur (by omega) rfl rfl (by simp) (by simp)) ?_
              rintro r P1 ⟨y, -, rfl, c2, b2, hb2, f2⟩
              have S := S.draw c2 f2
              have p2' : rdc P1 bx 2 = some v := S.rd 2
              obtain ⟨Q, ia, sto, S⟩ := S.put (by omega) hn0 y
              rw [hE] at S
              obtain ⟨Q9, sf, rf, lv, cwf, kf⟩ := S.fin hid hcb (by first | omega | (simp; omega)) (by first | omega | (simp; omega))
              have z0 := S.rd 0
              have z1 := S.rd 1
              have z2 := S.rd 2
              have z3 := S.rd 3
              have z4 := S.rd 4
              have y0 := rf 0
              have y1 := rf 1
              have y2 := rf 2
              have y3 := rf 3
              have y4 := rf 4
              simp only [shC, List.getElem?_cons_zero, List.getElem?_cons_succ] at z0 z1 z2 z3 z4 y0 y1 y2 y3 y4
              simp (config := {implicitDefEqProofs := false, maxDischargeDepth := 20}) (disch := first | omega | (simp only [lenE]; done) | (simp only [lenE]; omega) | rfl | (simp only [lenE, markR_len]; done) | (simp only [lenE, markR_len]; omega)) only [runE, mapE, listE, initT_5, initT_6, initT_7, initT_8, resV, oneV, binA, unA, reduceCtorEq, Nat.reduceEqDiff, Nat.reduceAdd, Nat.reduceLT, Nat.reduceLeDiff, Nat.reduceMul, Nat.reduceSub, ↓reduceIte, decide_true, decide_false, Bool.true_eq_false, Bool.false_eq_true, Bool.not_true, Bool.not_false, if_true, if_false, and_true, true_and, memE, celE, w64, Nat.zero_add, Nat.add_zero, Nat.mul_one, putL, and_self, ldn, t0, t2, t3, beq_self_eq_true, sto, ia, p2', z0, z1, z2, z3, z4, stP5s, sf, y0, y1, y2, y3, y4]
              exact ⟨_, ⟨⟨by first | omega | (simp; omega), by first | omega | (simp; omega)⟩, lv⟩, cwf, _, by omega, kf⟩
          · have hn0' : ¬ ((0 : Int) < (sh.need.length : Int)) := by omega
            obtain ⟨Q, hQ⟩ : ∃ Q, Q = P := ⟨_, rfl⟩
            rw [← hQ] at S p2 ⊢
            rw [hE] at S
            obtain ⟨Q9, sf, rf, lv, cwf, kf⟩ := S.fin hid hcb (by first | omega | (simp; omega)) (by first | omega | (simp; omega))
            have z0 := S.rd 0
            have z1 := S.rd 1
            have z2 := S.rd 2
            have z3 := S.rd 3
            have z4 := S.rd 4
            have y0 := rf 0
            have y1 := rf 1
            have y2 := rf 2
            have y3 := rf 3
            have y4 := rf 4
            simp only [shC, List.getElem?_cons_zero, List.getElem?_cons_succ] at z0 z1 z2 z3 z4 y0 y1 y2 y3 y4
            simp (config := {implicitDefEqProofs := false, maxDischargeDepth := 20}) (disch := first | omega | (simp only [lenE]; done) | (simp only [lenE]; omega) | rfl | (simp only [lenE, markR_len]; done) | (simp only [lenE, markR_len]; omega)) only [runE, mapE, listE, initT_5, initT_6, initT_7, initT_8, resV, oneV, binA, unA, reduceCtorEq, Nat.reduceEqDiff, Nat.reduceAdd, Nat.reduceLT, Nat.reduceLeDiff, Nat.reduceMul, Nat.reduceSub, ↓reduceIte, decide_true, decide_false, Bool.true_eq_false, Bool.false_eq_true, Bool.not_true, Bool.not_false, if_true, if_false, and_true, true_and, memE, celE, w64, Nat.zero_add, Nat.add_zero, Nat.mul_one, putL, and_self, ldn, t0, t2, t3, beq_self_eq_true, x0', x1', p2, ln2, gt_iff_lt, hn0', z0, z1, z2, z3, z4, stP5s, sf, y0, y1, y2, y3, y4]
            exact ⟨_, ⟨⟨by first | omega | (simp; omega), by first | omega | (simp; omega)⟩, lv⟩, cwf, _, by omega, kf⟩
        · have x2' : (x == 2) = false := by simp [x2]
          by_cases x3 : x = 3
          · subst x3
            simp (config := {implicitDefEqProofs := false, maxDischargeDepth := 20}) (disch := first | omega | (simp only [lenE]; done) | (simp only [lenE]; omega) | rfl | (simp only [lenE, markR_len]; done) | (simp only [lenE, markR_len]; omega)) only [runE, mapE, listE, initT_5, initT_6, initT_7, initT_8, resV, oneV, binA, unA, reduceCtorEq, Nat.reduceEqDiff, Nat.reduceAdd, Nat.reduceLT, Nat.reduceLeDiff, Nat.reduceMul, Nat.reduceSub, ↓reduceIte, decide_true, decide_false, Bool.true_eq_false, Bool.false_eq_true, Bool.not_true, Bool.not_false, if_true, if_false, and_true, true_and, memE, celE, w64, Nat.zero_add, Nat.add_zero, Nat.mul_one, putL, and_self, ldn, t0, t2, t3, beq_self_eq_true, x0', x1', x2']
            clear T0
            refine loop_inv mixed (fun s => ∃ (N : Mem) (sh : Sh) (u v : Value) (r1 r2 : Nat), s.m = N ∧ SB E N cb id b1 bx l sh u v r1 r2 ∧ sh.arr.length ≤ sh.need.length + 6 ∧ sh.need.length ≤ 9 ∧ s.t 0 = .pointer (some ⟨id, 0, none⟩) ∧ s.t 2 = .pointer (some ⟨M.length, 0, none⟩) ∧ s.t 3 = .pointer (some ⟨bx, 0, none⟩)) (fun s => 9 - ((rdc s.m bx 2).elim 0 lenOfA))
              ⟨P, sh, u, v, r1, r2, rfl, S, by omega, by omega, t0, t2, t3⟩ ?_
            clear S la ln t0 t2 t3 t4 tm
            rintro s ⟨N, sh, u, v, r1, r2, tm, S, la, ln, t0, t2, t3⟩
            have p2 : rdc N bx 2 = some v := S.rd 2
            have ln2 := S.g2.len9
            have lo2 := S.g2.lenOf9
            by_cases hlt : sh.need.length < 9
            · have hlt' : (sh.need.length : Int) < 9 := by omega
              obtain ⟨Q1, Q2, ap, sto, S3⟩ := S.app2 (by omega) 1
              have p1 : rdc Q2 bx 1 = some u := S3.rd 1
              obtain ⟨Q3, Q4, ap2, sto2, S5⟩ := S3.app1 (show sh.arr.length ≤ 1000 by omega) 1
              have m5 : rdc Q4 bx 2 = some (.slice (some ⟨N.length + 1, 0, none⟩) (sh.need.length + 1) 1) := S5.rd 2
              simp (config := {implicitDefEqProofs := false, maxDischargeDepth := 20}) (disch := first | omega | (simp only [lenE]; done) | (simp only [lenE]; omega) | rfl | (simp only [lenE, markR_len]; done) | (simp only [lenE, markR_len]; omega)) only [runE, mapE, listE, initT_5, initT_6, initT_7, initT_8, resV, oneV, binA, unA, reduceCtorEq, Nat.reduceEqDiff, Nat.reduceAdd, Nat.reduceLT, Nat.reduceLeDiff, Nat.reduceMul, Nat.reduceSub, ↓reduceIte, decide_true, decide_false, Bool.true_eq_false, Bool.false_eq_true, Bool.not_true, Bool.not_false, if_true, if_false, and_true, true_and, memE, celE, w64, Nat.zero_add, Nat.add_zero, Nat.mul_one, putL, and_self, ldn, tm, t0, t2, t3, p2, ln2, hlt', b1s, ap, sto, p1, ap2, sto2]
              refine ⟨⟨Q4, _, _, _, _, _, rfl, S5, by simp; omega, by simp; omega⟩, ?_⟩
              rw [m5]
              show 9 - (sh.need.length + 1) < 9 - lenOfA v
              rw [lo2]
              omega
            · have hlt' : ¬ ((sh.need.length : Int) < 9) := by omega
              rw [hE] at S
              obtain ⟨Q9, sf, rf, lv, cwf, kf⟩ := S.fin hid hcb (by first | omega | (simp; omega)) (by first | omega | (simp; omega))
              have z0 := S.rd 0
              have z1 := S.rd 1
              have z2 := S.rd 2
              have z3 := S.rd 3
              have z4 := S.rd 4
              have y0 := rf 0
              have y1 := rf 1
              have y2 := rf 2
              have y3 := rf 3
              have y4 := rf 4
              simp only [shC, List.getElem?_cons_zero, List.getElem?_cons_succ] at z0 z1 z2 z3 z4 y0 y1 y2 y3 y4
              simp (config := {implicitDefEqProofs := false, maxDischargeDepth := 20}) (disch := first | omega | (simp only [lenE]; done) | (simp only [lenE]; omega) | rfl | (simp only [lenE, markR_len]; done) | (simp only [lenE, markR_len]; omega)) only [runE, mapE, listE, initT_5, initT_6, initT_7, initT_8, resV, oneV, binA, unA, reduceCtorEq, Nat.reduceEqDiff, Nat.reduceAdd, Nat.reduceLT, Nat.reduceLeDiff, Nat.reduceMul, Nat.reduceSub, ↓reduceIte, decide_true, decide_false, Bool.true_eq_false, Bool.false_eq_true, Bool.not_true, Bool.not_false, if_true, if_false, and_true, true_and, memE, celE, w64, Nat.zero_add, Nat.add_zero, Nat.mul_one, putL, and_self, ldn, t0, t2, t3, beq_self_eq_true, tm, p2, ln2, hlt', z0, z1, z2, z3, z4, stP5s, sf, y0, y1, y2, y3, y4]
              exact ⟨_, ⟨⟨by first | omega | (simp; omega), by first | omega | (simp; omega)⟩, lv⟩, cwf, _, by omega, kf⟩
          · have x3' : (x == 3) = false := by simp [x3]
            obtain ⟨Q, hQ⟩ : ∃ Q, Q = P := ⟨_, rfl⟩
            rw [← hQ] at S ⊢
            rw [hE] at S
            obtain ⟨Q9, sf, rf, lv, cwf, kf⟩ := S.fin hid hcb (by first | omega | (simp; omega)) (by first | omega | (simp; omega))
            have z0 := S.rd 0
            have z1 := S.rd 1
            have z2 := S.rd 2
            have z3 := S.rd 3
            have z4 := S.rd 4
            have y0 := rf 0
            have y1 := rf 1
            have y2 := rf 2
            have y3 := rf 3
            have y4 := rf 4
            simp only [shC, List.getElem?_cons_zero, List.getElem?_cons_succ] at z0 z1 z2 z3 z4 y0 y1 y2 y3 y4
            simp (config := {implicitDefEqProofs := false, maxDischargeDepth := 20}) (disch := first | omega | (simp only [lenE]; done) | (simp only [lenE]; omega) | rfl | (simp only [lenE, markR_len]; done) | (simp only [lenE, markR_len]; omega)) only [runE, mapE, listE, initT_5, initT_6, initT_7, initT_8, resV, oneV, binA, unA, reduceCtorEq, Nat.reduceEqDiff, Nat.reduceAdd, Nat.reduceLT, Nat.reduceLeDiff, Nat.reduceMul, Nat.reduceSub, ↓reduceIte, decide_true, decide_false, Bool.true_eq_false, Bool.false_eq_true, Bool.not_true, Bool.not_false, if_true, if_false, and_true, true_and, memE, celE, w64, Nat.zero_add, Nat.add_zero, Nat.mul_one, putL, and_self, ldn, t0, t2, t3, beq_self_eq_true, x0', x1', x2', x3', z0, z1, z2, z3, z4, stP5s, sf, y0, y1, y2, y3, y4]
            exact ⟨_, ⟨⟨by first | omega | (simp; omega), by first | omega | (simp; omega)⟩, lv⟩, cwf, _, by omega, kf⟩
end Go.Proofs.Ytdgfbmilbhckiaa.Ab
end
section
namespace Go.Proofs.Ytdgfbmilbhckiaa.Ab
open Go Go.RowKit
set_option linter.unusedVariables false
set_option linter.unusedSimpArgs false
theorem isCount9_rc (m : Mem) (x most : Int) : RC Try.prog 103 [.int .i64 x, .int .i64 most] m fun r new => r = .bool (decide (1 ≤ x) && decide (x ≤ most)) ∧ new = [] := by
  refine rc_of_run mixed ok_impl_isCount (by simp) (go_start _ _ _ ?_)
  by_cases h : 0 < x
  · simp (config := {implicitDefEqProofs := false, maxDischargeDepth := 20}) (disch := first | omega | (simp only [lenE]; done) | (simp only [lenE]; omega) | rfl | (simp only [lenE, markR_len]; done) | (simp only [lenE, markR_len]; omega)) only [runE, mapE, listE, initT_5, initT_6, initT_7, initT_8, resV, oneV, binA, unA, reduceCtorEq, Nat.reduceEqDiff, Nat.reduceAdd, Nat.reduceLT, Nat.reduceLeDiff, Nat.reduceMul, Nat.reduceSub, ↓reduceIte, decide_true, decide_false, Bool.true_eq_false, Bool.false_eq_true, Bool.not_true, Bool.not_false, if_true, if_false, and_true, true_and, memE, celE, w64, Nat.zero_add, Nat.add_zero, Nat.mul_one, putL, and_self, ldn, c_impl_isCount, r_impl_isCount, h, gt_iff_lt]
    refine callH_rc (isWithin_rc _ _ _) ?_
    rintro r new ⟨rfl, rfl⟩
    simp (config := {implicitDefEqProofs := false, maxDischargeDepth := 20}) (disch := first | omega | (simp only [lenE]; done) | (simp only [lenE]; omega) | rfl | (simp only [lenE, markR_len]; done) | (simp only [lenE, markR_len]; omega)) only [runE, mapE, listE, initT_5, initT_6, initT_7, initT_8, resV, oneV, binA, unA, reduceCtorEq, Nat.reduceEqDiff, Nat.reduceAdd, Nat.reduceLT, Nat.reduceLeDiff, Nat.reduceMul, Nat.reduceSub, ↓reduceIte, decide_true, decide_false, Bool.true_eq_false, Bool.false_eq_true, Bool.not_true, Bool.not_false, if_true, if_false, and_true, true_and, memE, celE, w64, Nat.zero_add, Nat.add_zero, Nat.mul_one, putL, and_self, ldn]
    refine newQ_nil ⟨?_, rfl⟩
    have e1 : decide (0 ≤ x) = true := decide_eq_true (by omega)
    have e2 : decide (1 ≤ x) = true := decide_eq_true (by omega)
    simp only [inB, e1, e2]
  · simp (config := {implicitDefEqProofs := false, maxDischargeDepth := 20}) (disch := first | omega | (simp only [lenE]; done) | (simp only [lenE]; omega) | rfl | (simp only [lenE, markR_len]; done) | (simp only [lenE, markR_len]; omega)) only [runE, mapE, listE, initT_5, initT_6, initT_7, initT_8, resV, oneV, binA, unA, reduceCtorEq, Nat.reduceEqDiff, Nat.reduceAdd, Nat.reduceLT, Nat.reduceLeDiff, Nat.reduceMul, Nat.reduceSub, ↓reduceIte, decide_true, decide_false, Bool.true_eq_false, Bool.false_eq_true, Bool.not_true, Bool.not_false, if_true, if_false, and_true, true_and, memE, celE, w64, Nat.zero_add, Nat.add_zero, Nat.mul_one, putL, and_self, ldn, c_impl_isCount, r_impl_isCount, h, gt_iff_lt]
    refine newQ_nil ⟨?_, rfl⟩
    have e2 : decide (1 ≤ x) = false := decide_eq_false (by omega)
    simp only [e2, Bool.false_and]
theorem isLife_rc (m : Mem) (x : Int) : RC Try.prog 63 [.int .i64 x] m fun r new => r = .bool (decide (1 ≤ x) && decide (x ≤ 8)) ∧ new = [] := by
  refine rc_of_run mixed ok_impl_isLife (by simp) (go_start _ _ _ ?_)
  simp (config := {implicitDefEqProofs := false, maxDischargeDepth := 20}) (disch := first | omega | (simp only [lenE]; done) | (simp only [lenE]; omega) | rfl | (simp only [lenE, markR_len]; done) | (simp only [lenE, markR_len]; omega)) only [runE, mapE, listE, initT_5, initT_6, initT_7, initT_8, resV, oneV, binA, unA, reduceCtorEq, Nat.reduceEqDiff, Nat.reduceAdd, Nat.reduceLT, Nat.reduceLeDiff, Nat.reduceMul, Nat.reduceSub, ↓reduceIte, decide_true, decide_false, Bool.true_eq_false, Bool.false_eq_true, Bool.not_true, Bool.not_false, if_true, if_false, and_true, true_and, memE, celE, w64, Nat.zero_add, Nat.add_zero, Nat.mul_one, putL, and_self, ldn, c_impl_isLife, r_impl_isLife]
  refine callH_rc (isCount9_rc _ _ _) ?_
  rintro r new ⟨rfl, rfl⟩
  simp (config := {implicitDefEqProofs := false, maxDischargeDepth := 20}) (disch := first | omega | (simp only [lenE]; done) | (simp only [lenE]; omega) | rfl | (simp only [lenE, markR_len]; done) | (simp only [lenE, markR_len]; omega)) only [runE, mapE, listE, initT_5, initT_6, initT_7, initT_8, resV, oneV, binA, unA, reduceCtorEq, Nat.reduceEqDiff, Nat.reduceAdd, Nat.reduceLT, Nat.reduceLeDiff, Nat.reduceMul, Nat.reduceSub, ↓reduceIte, decide_true, decide_false, Bool.true_eq_false, Bool.false_eq_true, Bool.not_true, Bool.not_false, if_true, if_false, and_true, true_and, memE, celE, w64, Nat.zero_add, Nat.add_zero, Nat.mul_one, putL, and_self, ldn]
  exact newQ_nil ⟨rfl, rfl⟩
theorem charges9_rc (m : Mem) (o u : Int) : RC Try.prog 91 [.int .i64 o, .int .i64 u] m fun r new => r = .bool ((decide (0 ≤ o) && decide (o ≤ 20)) && (decide (0 ≤ u) && decide (u ≤ 20))) ∧ new = [] := by
  refine rc_of_run mixed ok_spec_l5Charges (by simp) (go_start _ _ _ ?_)
  simp (config := {implicitDefEqProofs := false, maxDischargeDepth := 20}) (disch := first | omega | (simp only [lenE]; done) | (simp only [lenE]; omega) | rfl | (simp only [lenE, markR_len]; done) | (simp only [lenE, markR_len]; omega)) only [runE, mapE, listE, initT_5, initT_6, initT_7, initT_8, resV, oneV, binA, unA, reduceCtorEq, Nat.reduceEqDiff, Nat.reduceAdd, Nat.reduceLT, Nat.reduceLeDiff, Nat.reduceMul, Nat.reduceSub, ↓reduceIte, decide_true, decide_false, Bool.true_eq_false, Bool.false_eq_true, Bool.not_true, Bool.not_false, if_true, if_false, and_true, true_and, memE, celE, w64, Nat.zero_add, Nat.add_zero, Nat.mul_one, putL, and_self, ldn, c_spec_l5Charges, r_spec_l5Charges]
  refine callH_rc (l1In_rc _ _ _ _) ?_
  rintro r new ⟨rfl, rfl⟩
  cases hd : (decide (0 ≤ o) && decide (o ≤ 20)) with
  | false =>
    simp (config := {implicitDefEqProofs := false, maxDischargeDepth := 20}) (disch := first | omega | (simp only [lenE]; done) | (simp only [lenE]; omega) | rfl | (simp only [lenE, markR_len]; done) | (simp only [lenE, markR_len]; omega)) only [runE, mapE, listE, initT_5, initT_6, initT_7, initT_8, resV, oneV, binA, unA, reduceCtorEq, Nat.reduceEqDiff, Nat.reduceAdd, Nat.reduceLT, Nat.reduceLeDiff, Nat.reduceMul, Nat.reduceSub, ↓reduceIte, decide_true, decide_false, Bool.true_eq_false, Bool.false_eq_true, Bool.not_true, Bool.not_false, if_true, if_false, and_true, true_and, memE, celE, w64, Nat.zero_add, Nat.add_zero, Nat.mul_one, putL, and_self, ldn]
    exact newQ_nil ⟨rfl, rfl⟩
  | true =>
    simp (config := {implicitDefEqProofs := false, maxDischargeDepth := 20}) (disch := first | omega | (simp only [lenE]; done) | (simp only [lenE]; omega) | rfl | (simp only [lenE, markR_len]; done) | (simp only [lenE, markR_len]; omega)) only [runE, mapE, listE, initT_5, initT_6, initT_7, initT_8, resV, oneV, binA, unA, reduceCtorEq, Nat.reduceEqDiff, Nat.reduceAdd, Nat.reduceLT, Nat.reduceLeDiff, Nat.reduceMul, Nat.reduceSub, ↓reduceIte, decide_true, decide_false, Bool.true_eq_false, Bool.false_eq_true, Bool.not_true, Bool.not_false, if_true, if_false, and_true, true_and, memE, celE, w64, Nat.zero_add, Nat.add_zero, Nat.mul_one, putL, and_self, ldn]
    refine callH_rc (l1In_rc _ _ _ _) ?_
    rintro r new ⟨rfl, rfl⟩
    simp (config := {implicitDefEqProofs := false, maxDischargeDepth := 20}) (disch := first | omega | (simp only [lenE]; done) | (simp only [lenE]; omega) | rfl | (simp only [lenE, markR_len]; done) | (simp only [lenE, markR_len]; omega)) only [runE, mapE, listE, initT_5, initT_6, initT_7, initT_8, resV, oneV, binA, unA, reduceCtorEq, Nat.reduceEqDiff, Nat.reduceAdd, Nat.reduceLT, Nat.reduceLeDiff, Nat.reduceMul, Nat.reduceSub, ↓reduceIte, decide_true, decide_false, Bool.true_eq_false, Bool.false_eq_true, Bool.not_true, Bool.not_false, if_true, if_false, and_true, true_and, memE, celE, w64, Nat.zero_add, Nat.add_zero, Nat.mul_one, putL, and_self, ldn]
    exact newQ_nil ⟨rfl, rfl⟩
theorem l9Good_rc (m : Mem) (v : Value) (s : Sh) (h : ShA m v s) : RC Try.prog 46 [v] m (AnsV (.bool s.good)) := by
  refine rc_of_run mixed ok_spec_l9Good (by simp) (go_start _ _ _ ?_)
  obtain ⟨a, b, rfl, ha, hb⟩ := h.ro
  unfold Sh.good
  simp (config := {implicitDefEqProofs := false, maxDischargeDepth := 20}) (disch := first | omega | (simp only [lenE]; done) | (simp only [lenE]; omega) | rfl | (simp only [lenE, markR_len]; done) | (simp only [lenE, markR_len]; omega)) only [runE, mapE, listE, initT_5, initT_6, initT_7, initT_8, resV, oneV, binA, unA, reduceCtorEq, Nat.reduceEqDiff, Nat.reduceAdd, Nat.reduceLT, Nat.reduceLeDiff, Nat.reduceMul, Nat.reduceSub, ↓reduceIte, decide_true, decide_false, Bool.true_eq_false, Bool.false_eq_true, Bool.not_true, Bool.not_false, if_true, if_false, and_true, true_and, memE, celE, w64, Nat.zero_add, Nat.add_zero, Nat.mul_one, putL, and_self, ldn, c_spec_l9Good, r_spec_l9Good]
  refine callH_rc (l1In_rc _ _ _ _) ?_
  rintro r new ⟨rfl, rfl⟩
  cases b0 : (decide (1 ≤ s.life) && decide (s.life ≤ 8)) with
  | false =>
    simp (config := {implicitDefEqProofs := false, maxDischargeDepth := 20}) (disch := first | omega | (simp only [lenE]; done) | (simp only [lenE]; omega) | rfl | (simp only [lenE, markR_len]; done) | (simp only [lenE, markR_len]; omega)) only [runE, mapE, listE, initT_5, initT_6, initT_7, initT_8, resV, oneV, binA, unA, reduceCtorEq, Nat.reduceEqDiff, Nat.reduceAdd, Nat.reduceLT, Nat.reduceLeDiff, Nat.reduceMul, Nat.reduceSub, ↓reduceIte, decide_true, decide_false, Bool.true_eq_false, Bool.false_eq_true, Bool.not_true, Bool.not_false, if_true, if_false, and_true, true_and, memE, celE, w64, Nat.zero_add, Nat.add_zero, Nat.mul_one, putL, and_self, ldn]
    try simp only [List.append_assoc, List.cons_append, List.nil_append, List.append_nil]
    exact ⟨_, rfl, by (repeat (first | exact noRo_nil | assumption | apply noRo_own | apply noRo_dead | apply noRo_app)), by simp, by (repeat (first | exact noRo_nil | assumption | apply noRo_own | apply noRo_dead | apply noRo_app))⟩
  | true =>
  by_cases g0 : s.need.length ≤ 8
  · have g0' : ¬ (8 < (s.need.length : Int)) := by omega
    simp (config := {implicitDefEqProofs := false, maxDischargeDepth := 20}) (disch := first | omega | (simp only [lenE]; done) | (simp only [lenE]; omega) | rfl | (simp only [lenE, markR_len]; done) | (simp only [lenE, markR_len]; omega)) only [runE, mapE, listE, initT_5, initT_6, initT_7, initT_8, resV, oneV, binA, unA, reduceCtorEq, Nat.reduceEqDiff, Nat.reduceAdd, Nat.reduceLT, Nat.reduceLeDiff, Nat.reduceMul, Nat.reduceSub, ↓reduceIte, decide_true, decide_false, Bool.true_eq_false, Bool.false_eq_true, Bool.not_true, Bool.not_false, if_true, if_false, and_true, true_and, memE, celE, w64, Nat.zero_add, Nat.add_zero, Nat.mul_one, putL, and_self, ldn, hb.len, gt_iff_lt, g0']
    refine callH_rc (l2Row_rc _ b s.need s.need.length 20 (by repeat (first | assumption | apply IntsA.ext))) ?_
    rintro r new ⟨rfl, rfl⟩
    cases b1 : Go.Proofs.Ytdgfbmilbhckiaa.rowB s.need s.need.length 20 with
    | false =>
      simp (config := {implicitDefEqProofs := false, maxDischargeDepth := 20}) (disch := first | omega | (simp only [lenE]; done) | (simp only [lenE]; omega) | rfl | (simp only [lenE, markR_len]; done) | (simp only [lenE, markR_len]; omega)) only [runE, mapE, listE, initT_5, initT_6, initT_7, initT_8, resV, oneV, binA, unA, reduceCtorEq, Nat.reduceEqDiff, Nat.reduceAdd, Nat.reduceLT, Nat.reduceLeDiff, Nat.reduceMul, Nat.reduceSub, ↓reduceIte, decide_true, decide_false, Bool.true_eq_false, Bool.false_eq_true, Bool.not_true, Bool.not_false, if_true, if_false, and_true, true_and, memE, celE, w64, Nat.zero_add, Nat.add_zero, Nat.mul_one, putL, and_self, ldn]
      try simp only [List.append_assoc, List.cons_append, List.nil_append, List.append_nil]
      exact ⟨_, rfl, by (repeat (first | exact noRo_nil | assumption | apply noRo_own | apply noRo_dead | apply noRo_app)), by simp, by (repeat (first | exact noRo_nil | assumption | apply noRo_own | apply noRo_dead | apply noRo_app))⟩
    | true =>
    simp (config := {implicitDefEqProofs := false, maxDischargeDepth := 20}) (disch := first | omega | (simp only [lenE]; done) | (simp only [lenE]; omega) | rfl | (simp only [lenE, markR_len]; done) | (simp only [lenE, markR_len]; omega)) only [runE, mapE, listE, initT_5, initT_6, initT_7, initT_8, resV, oneV, binA, unA, reduceCtorEq, Nat.reduceEqDiff, Nat.reduceAdd, Nat.reduceLT, Nat.reduceLeDiff, Nat.reduceMul, Nat.reduceSub, ↓reduceIte, decide_true, decide_false, Bool.true_eq_false, Bool.false_eq_true, Bool.not_true, Bool.not_false, if_true, if_false, and_true, true_and, memE, celE, w64, Nat.zero_add, Nat.add_zero, Nat.mul_one, putL, and_self, ldn, hb.len]
    refine callH_rc (l2Row_rc _ a s.arr s.need.length 20 (by repeat (first | assumption | apply IntsA.ext))) ?_
    rintro r new ⟨rfl, rfl⟩
    cases b2 : Go.Proofs.Ytdgfbmilbhckiaa.rowB s.arr s.need.length 20 with
    | false =>
      simp (config := {implicitDefEqProofs := false, maxDischargeDepth := 20}) (disch := first | omega | (simp only [lenE]; done) | (simp only [lenE]; omega) | rfl | (simp only [lenE, markR_len]; done) | (simp only [lenE, markR_len]; omega)) only [runE, mapE, listE, initT_5, initT_6, initT_7, initT_8, resV, oneV, binA, unA, reduceCtorEq, Nat.reduceEqDiff, Nat.reduceAdd, Nat.reduceLT, Nat.reduceLeDiff, Nat.reduceMul, Nat.reduceSub, ↓reduceIte, decide_true, decide_false, Bool.true_eq_false, Bool.false_eq_true, Bool.not_true, Bool.not_false, if_true, if_false, and_true, true_and, memE, celE, w64, Nat.zero_add, Nat.add_zero, Nat.mul_one, putL, and_self, ldn]
      try simp only [List.append_assoc, List.cons_append, List.nil_append, List.append_nil]
      exact ⟨_, rfl, by (repeat (first | exact noRo_nil | assumption | apply noRo_own | apply noRo_dead | apply noRo_app)), by simp, by (repeat (first | exact noRo_nil | assumption | apply noRo_own | apply noRo_dead | apply noRo_app))⟩
    | true =>
    simp (config := {implicitDefEqProofs := false, maxDischargeDepth := 20}) (disch := first | omega | (simp only [lenE]; done) | (simp only [lenE]; omega) | rfl | (simp only [lenE, markR_len]; done) | (simp only [lenE, markR_len]; omega)) only [runE, mapE, listE, initT_5, initT_6, initT_7, initT_8, resV, oneV, binA, unA, reduceCtorEq, Nat.reduceEqDiff, Nat.reduceAdd, Nat.reduceLT, Nat.reduceLeDiff, Nat.reduceMul, Nat.reduceSub, ↓reduceIte, decide_true, decide_false, Bool.true_eq_false, Bool.false_eq_true, Bool.not_true, Bool.not_false, if_true, if_false, and_true, true_and, memE, celE, w64, Nat.zero_add, Nat.add_zero, Nat.mul_one, putL, and_self, ldn]
    refine callH_rc (charges9_rc _ _ _) ?_
    rintro r new ⟨rfl, rfl⟩
    simp (config := {implicitDefEqProofs := false, maxDischargeDepth := 20}) (disch := first | omega | (simp only [lenE]; done) | (simp only [lenE]; omega) | rfl | (simp only [lenE, markR_len]; done) | (simp only [lenE, markR_len]; omega)) only [runE, mapE, listE, initT_5, initT_6, initT_7, initT_8, resV, oneV, binA, unA, reduceCtorEq, Nat.reduceEqDiff, Nat.reduceAdd, Nat.reduceLT, Nat.reduceLeDiff, Nat.reduceMul, Nat.reduceSub, ↓reduceIte, decide_true, decide_false, Bool.true_eq_false, Bool.false_eq_true, Bool.not_true, Bool.not_false, if_true, if_false, and_true, true_and, memE, celE, w64, Nat.zero_add, Nat.add_zero, Nat.mul_one, putL, and_self, ldn]
    try simp only [List.append_assoc, List.cons_append, List.nil_append, List.append_nil]
    exact ⟨_, rfl, by (repeat (first | exact noRo_nil | assumption | apply noRo_own | apply noRo_dead | apply noRo_app)), by simp [g0], by (repeat (first | exact noRo_nil | assumption | apply noRo_own | apply noRo_dead | apply noRo_app))⟩
  · have g0' : 8 < (s.need.length : Int) := by omega
    simp (config := {implicitDefEqProofs := false, maxDischargeDepth := 20}) (disch := first | omega | (simp only [lenE]; done) | (simp only [lenE]; omega) | rfl | (simp only [lenE, markR_len]; done) | (simp only [lenE, markR_len]; omega)) only [runE, mapE, listE, initT_5, initT_6, initT_7, initT_8, resV, oneV, binA, unA, reduceCtorEq, Nat.reduceEqDiff, Nat.reduceAdd, Nat.reduceLT, Nat.reduceLeDiff, Nat.reduceMul, Nat.reduceSub, ↓reduceIte, decide_true, decide_false, Bool.true_eq_false, Bool.false_eq_true, Bool.not_true, Bool.not_false, if_true, if_false, and_true, true_and, memE, celE, w64, Nat.zero_add, Nat.add_zero, Nat.mul_one, putL, and_self, ldn, hb.len, gt_iff_lt, g0']
    try simp only [List.append_assoc, List.cons_append, List.nil_append, List.append_nil]
    exact ⟨_, rfl, by (repeat (first | exact noRo_nil | assumption | apply noRo_own | apply noRo_dead | apply noRo_app)), by simp [g0], by (repeat (first | exact noRo_nil | assumption | apply noRo_own | apply noRo_dead | apply noRo_app))⟩
theorem implIsShelf_rc (m : Mem) (v : Value) (s : Sh) (h : ShA m v s) : RC Try.prog 24 [v] m (AnsV (.bool s.good)) := by
  refine rc_of_run mixed ok_impl_IsShelf (by simp) (go_start _ _ _ ?_)
  obtain ⟨a, b, rfl, ha, hb⟩ := h.ro
  simp (config := {implicitDefEqProofs := false, maxDischargeDepth := 20}) (disch := first | omega | (simp only [lenE]; done) | (simp only [lenE]; omega) | rfl | (simp only [lenE, markR_len]; done) | (simp only [lenE, markR_len]; omega)) only [runE, mapE, listE, initT_5, initT_6, initT_7, initT_8, resV, oneV, binA, unA, reduceCtorEq, Nat.reduceEqDiff, Nat.reduceAdd, Nat.reduceLT, Nat.reduceLeDiff, Nat.reduceMul, Nat.reduceSub, ↓reduceIte, decide_true, decide_false, Bool.true_eq_false, Bool.false_eq_true, Bool.not_true, Bool.not_false, if_true, if_false, and_true, true_and, memE, celE, w64, Nat.zero_add, Nat.add_zero, Nat.mul_one, putL, and_self, ldn, c_impl_IsShelf, r_impl_IsShelf, ha.len]
  refine callH_rc (isLife_rc _ _) ?_
  rintro r new ⟨rfl, rfl⟩
  have key : s.good = ((decide (1 ≤ s.life) && decide (s.life ≤ 8)) && decide ((s.arr.length : Int) ≤ 8) && Go.Proofs.Ytdgfbmilbhckiaa.rowB s.arr s.arr.length 20 && Go.Proofs.Ytdgfbmilbhckiaa.rowB s.need s.arr.length 20 && inB 20 s.waste && inB 20 s.lost) := by
    rw [Bool.eq_iff_iff, goodSh_iff]
    simp only [Bool.and_eq_true, decide_eq_true_eq, rowB_iff, inB_iff]
    constructor
    · rintro ⟨h1, h2, h3, h4, h5, h6, h7, h8⟩
      exact ⟨⟨⟨⟨⟨⟨h1, h2⟩, by omega⟩, h5, by trivial⟩, h4, h6.symm⟩, h7⟩, h8⟩
    · rintro ⟨⟨⟨⟨⟨⟨h1, h2⟩, h3⟩, h5, _⟩, h4, h6⟩, h7⟩, h8⟩
      exact ⟨h1, h2, by omega, h4, h5, h6.symm, h7, h8⟩
  rw [key]
  cases b0 : (decide (1 ≤ s.life) && decide (s.life ≤ 8)) with
  | false =>
    simp (config := {implicitDefEqProofs := false, maxDischargeDepth := 20}) (disch := first | omega | (simp only [lenE]; done) | (simp only [lenE]; omega) | rfl | (simp only [lenE, markR_len]; done) | (simp only [lenE, markR_len]; omega)) only [runE, mapE, listE, initT_5, initT_6, initT_7, initT_8, resV, oneV, binA, unA, reduceCtorEq, Nat.reduceEqDiff, Nat.reduceAdd, Nat.reduceLT, Nat.reduceLeDiff, Nat.reduceMul, Nat.reduceSub, ↓reduceIte, decide_true, decide_false, Bool.true_eq_false, Bool.false_eq_true, Bool.not_true, Bool.not_false, if_true, if_false, and_true, true_and, memE, celE, w64, Nat.zero_add, Nat.add_zero, Nat.mul_one, putL, and_self, ldn]
    try simp only [List.append_assoc, List.cons_append, List.nil_append, List.append_nil]
    exact ⟨_, rfl, by (repeat (first | exact noRo_nil | assumption | apply noRo_own | apply noRo_dead | apply noRo_app)), by simp, by (repeat (first | exact noRo_nil | assumption | apply noRo_own | apply noRo_dead | apply noRo_app))⟩
  | true =>
  cases g0 : decide ((s.arr.length : Int) ≤ 8) with
  | false =>
    simp (config := {implicitDefEqProofs := false, maxDischargeDepth := 20}) (disch := first | omega | (simp only [lenE]; done) | (simp only [lenE]; omega) | rfl | (simp only [lenE, markR_len]; done) | (simp only [lenE, markR_len]; omega)) only [runE, mapE, listE, initT_5, initT_6, initT_7, initT_8, resV, oneV, binA, unA, reduceCtorEq, Nat.reduceEqDiff, Nat.reduceAdd, Nat.reduceLT, Nat.reduceLeDiff, Nat.reduceMul, Nat.reduceSub, ↓reduceIte, decide_true, decide_false, Bool.true_eq_false, Bool.false_eq_true, Bool.not_true, Bool.not_false, if_true, if_false, and_true, true_and, memE, celE, w64, Nat.zero_add, Nat.add_zero, Nat.mul_one, putL, and_self, ldn, g0]
    try simp only [List.append_assoc, List.cons_append, List.nil_append, List.append_nil]
    exact ⟨_, rfl, by (repeat (first | exact noRo_nil | assumption | apply noRo_own | apply noRo_dead | apply noRo_app)), by simp, by (repeat (first | exact noRo_nil | assumption | apply noRo_own | apply noRo_dead | apply noRo_app))⟩
  | true =>
  simp (config := {implicitDefEqProofs := false, maxDischargeDepth := 20}) (disch := first | omega | (simp only [lenE]; done) | (simp only [lenE]; omega) | rfl | (simp only [lenE, markR_len]; done) | (simp only [lenE, markR_len]; omega)) only [runE, mapE, listE, initT_5, initT_6, initT_7, initT_8, resV, oneV, binA, unA, reduceCtorEq, Nat.reduceEqDiff, Nat.reduceAdd, Nat.reduceLT, Nat.reduceLeDiff, Nat.reduceMul, Nat.reduceSub, ↓reduceIte, decide_true, decide_false, Bool.true_eq_false, Bool.false_eq_true, Bool.not_true, Bool.not_false, if_true, if_false, and_true, true_and, memE, celE, w64, Nat.zero_add, Nat.add_zero, Nat.mul_one, putL, and_self, ldn, g0]
  refine callH_rc (isRow_rc _ a s.arr s.arr.length 20 (by repeat (first | assumption | apply IntsA.ext))) ?_
  rintro r n1 ⟨rfl, nr1⟩
  cases b1 : Go.Proofs.Ytdgfbmilbhckiaa.rowB s.arr s.arr.length 20 with
  | false =>
    simp (config := {implicitDefEqProofs := false, maxDischargeDepth := 20}) (disch := first | omega | (simp only [lenE]; done) | (simp only [lenE]; omega) | rfl | (simp only [lenE, markR_len]; done) | (simp only [lenE, markR_len]; omega)) only [runE, mapE, listE, initT_5, initT_6, initT_7, initT_8, resV, oneV, binA, unA, reduceCtorEq, Nat.reduceEqDiff, Nat.reduceAdd, Nat.reduceLT, Nat.reduceLeDiff, Nat.reduceMul, Nat.reduceSub, ↓reduceIte, decide_true, decide_false, Bool.true_eq_false, Bool.false_eq_true, Bool.not_true, Bool.not_false, if_true, if_false, and_true, true_and, memE, celE, w64, Nat.zero_add, Nat.add_zero, Nat.mul_one, putL, and_self, ldn]
    try simp only [List.append_assoc, List.cons_append, List.nil_append, List.append_nil]
    exact ⟨_, rfl, by (repeat (first | exact noRo_nil | assumption | apply noRo_own | apply noRo_dead | apply noRo_app)), by simp, by (repeat (first | exact noRo_nil | assumption | apply noRo_own | apply noRo_dead | apply noRo_app))⟩
  | true =>
  simp (config := {implicitDefEqProofs := false, maxDischargeDepth := 20}) (disch := first | omega | (simp only [lenE]; done) | (simp only [lenE]; omega) | rfl | (simp only [lenE, markR_len]; done) | (simp only [lenE, markR_len]; omega)) only [runE, mapE, listE, initT_5, initT_6, initT_7, initT_8, resV, oneV, binA, unA, reduceCtorEq, Nat.reduceEqDiff, Nat.reduceAdd, Nat.reduceLT, Nat.reduceLeDiff, Nat.reduceMul, Nat.reduceSub, ↓reduceIte, decide_true, decide_false, Bool.true_eq_false, Bool.false_eq_true, Bool.not_true, Bool.not_false, if_true, if_false, and_true, true_and, memE, celE, w64, Nat.zero_add, Nat.add_zero, Nat.mul_one, putL, and_self, ldn]
  refine callH_rc (isRow_rc _ b s.need s.arr.length 20 (by repeat (first | assumption | apply IntsA.ext))) ?_
  rintro r n2 ⟨rfl, nr2⟩
  cases b2 : Go.Proofs.Ytdgfbmilbhckiaa.rowB s.need s.arr.length 20 with
  | false =>
    simp (config := {implicitDefEqProofs := false, maxDischargeDepth := 20}) (disch := first | omega | (simp only [lenE]; done) | (simp only [lenE]; omega) | rfl | (simp only [lenE, markR_len]; done) | (simp only [lenE, markR_len]; omega)) only [runE, mapE, listE, initT_5, initT_6, initT_7, initT_8, resV, oneV, binA, unA, reduceCtorEq, Nat.reduceEqDiff, Nat.reduceAdd, Nat.reduceLT, Nat.reduceLeDiff, Nat.reduceMul, Nat.reduceSub, ↓reduceIte, decide_true, decide_false, Bool.true_eq_false, Bool.false_eq_true, Bool.not_true, Bool.not_false, if_true, if_false, and_true, true_and, memE, celE, w64, Nat.zero_add, Nat.add_zero, Nat.mul_one, putL, and_self, ldn]
    try simp only [List.append_assoc, List.cons_append, List.nil_append, List.append_nil]
    exact ⟨_, rfl, by (repeat (first | exact noRo_nil | assumption | apply noRo_own | apply noRo_dead | apply noRo_app)), by simp, by (repeat (first | exact noRo_nil | assumption | apply noRo_own | apply noRo_dead | apply noRo_app))⟩
  | true =>
  simp (config := {implicitDefEqProofs := false, maxDischargeDepth := 20}) (disch := first | omega | (simp only [lenE]; done) | (simp only [lenE]; omega) | rfl | (simp only [lenE, markR_len]; done) | (simp only [lenE, markR_len]; omega)) only [runE, mapE, listE, initT_5, initT_6, initT_7, initT_8, resV, oneV, binA, unA, reduceCtorEq, Nat.reduceEqDiff, Nat.reduceAdd, Nat.reduceLT, Nat.reduceLeDiff, Nat.reduceMul, Nat.reduceSub, ↓reduceIte, decide_true, decide_false, Bool.true_eq_false, Bool.false_eq_true, Bool.not_true, Bool.not_false, if_true, if_false, and_true, true_and, memE, celE, w64, Nat.zero_add, Nat.add_zero, Nat.mul_one, putL, and_self, ldn]
  refine callH_rc (isWithin_rc _ _ _) ?_
  rintro r new ⟨rfl, rfl⟩
  cases b3 : inB 20 s.waste with
  | false =>
    simp (config := {implicitDefEqProofs := false, maxDischargeDepth := 20}) (disch := first | omega | (simp only [lenE]; done) | (simp only [lenE]; omega) | rfl | (simp only [lenE, markR_len]; done) | (simp only [lenE, markR_len]; omega)) only [runE, mapE, listE, initT_5, initT_6, initT_7, initT_8, resV, oneV, binA, unA, reduceCtorEq, Nat.reduceEqDiff, Nat.reduceAdd, Nat.reduceLT, Nat.reduceLeDiff, Nat.reduceMul, Nat.reduceSub, ↓reduceIte, decide_true, decide_false, Bool.true_eq_false, Bool.false_eq_true, Bool.not_true, Bool.not_false, if_true, if_false, and_true, true_and, memE, celE, w64, Nat.zero_add, Nat.add_zero, Nat.mul_one, putL, and_self, ldn]
    try simp only [List.append_assoc, List.cons_append, List.nil_append, List.append_nil]
    exact ⟨_, rfl, by (repeat (first | exact noRo_nil | assumption | apply noRo_own | apply noRo_dead | apply noRo_app)), by simp, by (repeat (first | exact noRo_nil | assumption | apply noRo_own | apply noRo_dead | apply noRo_app))⟩
  | true =>
  simp (config := {implicitDefEqProofs := false, maxDischargeDepth := 20}) (disch := first | omega | (simp only [lenE]; done) | (simp only [lenE]; omega) | rfl | (simp only [lenE, markR_len]; done) | (simp only [lenE, markR_len]; omega)) only [runE, mapE, listE, initT_5, initT_6, initT_7, initT_8, resV, oneV, binA, unA, reduceCtorEq, Nat.reduceEqDiff, Nat.reduceAdd, Nat.reduceLT, Nat.reduceLeDiff, Nat.reduceMul, Nat.reduceSub, ↓reduceIte, decide_true, decide_false, Bool.true_eq_false, Bool.false_eq_true, Bool.not_true, Bool.not_false, if_true, if_false, and_true, true_and, memE, celE, w64, Nat.zero_add, Nat.add_zero, Nat.mul_one, putL, and_self, ldn]
  refine callH_rc (isWithin_rc _ _ _) ?_
  rintro r new ⟨rfl, rfl⟩
  simp (config := {implicitDefEqProofs := false, maxDischargeDepth := 20}) (disch := first | omega | (simp only [lenE]; done) | (simp only [lenE]; omega) | rfl | (simp only [lenE, markR_len]; done) | (simp only [lenE, markR_len]; omega)) only [runE, mapE, listE, initT_5, initT_6, initT_7, initT_8, resV, oneV, binA, unA, reduceCtorEq, Nat.reduceEqDiff, Nat.reduceAdd, Nat.reduceLT, Nat.reduceLeDiff, Nat.reduceMul, Nat.reduceSub, ↓reduceIte, decide_true, decide_false, Bool.true_eq_false, Bool.false_eq_true, Bool.not_true, Bool.not_false, if_true, if_false, and_true, true_and, memE, celE, w64, Nat.zero_add, Nat.add_zero, Nat.mul_one, putL, and_self, ldn]
  try simp only [List.append_assoc, List.cons_append, List.nil_append, List.append_nil]
  exact ⟨_, rfl, by (repeat (first | exact noRo_nil | assumption | apply noRo_own | apply noRo_dead | apply noRo_app)), by simp, by (repeat (first | exact noRo_nil | assumption | apply noRo_own | apply noRo_dead | apply noRo_app))⟩
theorem usable_rc (m : Mem) (v : Value) (s : Sh) (f t : Nat) (h : ShA m v s) (hf : f ≤ 100) (hl : 0 ≤ s.life ∧ s.life ≤ 8) : RC Try.prog 92 [v, .int .i64 (f : Int), .int .i64 (t : Int)] m (AnsV (.bool (usB s.life f t))) := by
  refine rc_of_run mixed ok_spec_l9Usable (by simp) (go_start _ _ _ ?_)
  obtain ⟨a, b, rfl, ha, hb⟩ := h.ro
  unfold usB
  by_cases g : (f : Int) ≤ t
  · simp (config := {implicitDefEqProofs := false, maxDischargeDepth := 20}) (disch := first | omega | (simp only [lenE]; done) | (simp only [lenE]; omega) | rfl | (simp only [lenE, markR_len]; done) | (simp only [lenE, markR_len]; omega)) only [runE, mapE, listE, initT_5, initT_6, initT_7, initT_8, resV, oneV, binA, unA, reduceCtorEq, Nat.reduceEqDiff, Nat.reduceAdd, Nat.reduceLT, Nat.reduceLeDiff, Nat.reduceMul, Nat.reduceSub, ↓reduceIte, decide_true, decide_false, Bool.true_eq_false, Bool.false_eq_true, Bool.not_true, Bool.not_false, if_true, if_false, and_true, true_and, memE, celE, w64, Nat.zero_add, Nat.add_zero, Nat.mul_one, putL, and_self, ldn, c_spec_l9Usable, r_spec_l9Usable, g]
    try simp only [List.append_assoc, List.cons_append, List.nil_append, List.append_nil]
    exact ⟨_, rfl, by (repeat (first | exact noRo_nil | assumption | apply noRo_own | apply noRo_dead | apply noRo_app)), by simp, by (repeat (first | exact noRo_nil | assumption | apply noRo_own | apply noRo_dead | apply noRo_app))⟩
  · simp (config := {implicitDefEqProofs := false, maxDischargeDepth := 20}) (disch := first | omega | (simp only [lenE]; done) | (simp only [lenE]; omega) | rfl | (simp only [lenE, markR_len]; done) | (simp only [lenE, markR_len]; omega)) only [runE, mapE, listE, initT_5, initT_6, initT_7, initT_8, resV, oneV, binA, unA, reduceCtorEq, Nat.reduceEqDiff, Nat.reduceAdd, Nat.reduceLT, Nat.reduceLeDiff, Nat.reduceMul, Nat.reduceSub, ↓reduceIte, decide_true, decide_false, Bool.true_eq_false, Bool.false_eq_true, Bool.not_true, Bool.not_false, if_true, if_false, and_true, true_and, memE, celE, w64, Nat.zero_add, Nat.add_zero, Nat.mul_one, putL, and_self, ldn, c_spec_l9Usable, r_spec_l9Usable, g]
    try simp only [List.append_assoc, List.cons_append, List.nil_append, List.append_nil]
    exact ⟨_, rfl, by (repeat (first | exact noRo_nil | assumption | apply noRo_own | apply noRo_dead | apply noRo_app)), by simp [g], by (repeat (first | exact noRo_nil | assumption | apply noRo_own | apply noRo_dead | apply noRo_app))⟩
theorem isFresh_rc (m : Mem) (f t : Nat) (life : Int) (hf : f ≤ 100) (hl : 0 ≤ life ∧ life ≤ 8) : RC Try.prog 102 [.int .i64 (f : Int), .int .i64 (t : Int), .int .i64 life] m fun r new => r = .bool (usB life f t) ∧ new = [] := by
  refine rc_of_run mixed ok_impl_isFresh (by simp) (go_start _ _ _ ?_)
  unfold usB
  by_cases g : (f : Int) ≤ t
  · simp (config := {implicitDefEqProofs := false, maxDischargeDepth := 20}) (disch := first | omega | (simp only [lenE]; done) | (simp only [lenE]; omega) | rfl | (simp only [lenE, markR_len]; done) | (simp only [lenE, markR_len]; omega)) only [runE, mapE, listE, initT_5, initT_6, initT_7, initT_8, resV, oneV, binA, unA, reduceCtorEq, Nat.reduceEqDiff, Nat.reduceAdd, Nat.reduceLT, Nat.reduceLeDiff, Nat.reduceMul, Nat.reduceSub, ↓reduceIte, decide_true, decide_false, Bool.true_eq_false, Bool.false_eq_true, Bool.not_true, Bool.not_false, if_true, if_false, and_true, true_and, memE, celE, w64, Nat.zero_add, Nat.add_zero, Nat.mul_one, putL, and_self, ldn, c_impl_isFresh, r_impl_isFresh, g]
    exact newQ_nil ⟨by simp, rfl⟩
  · simp (config := {implicitDefEqProofs := false, maxDischargeDepth := 20}) (disch := first | omega | (simp only [lenE]; done) | (simp only [lenE]; omega) | rfl | (simp only [lenE, markR_len]; done) | (simp only [lenE, markR_len]; omega)) only [runE, mapE, listE, initT_5, initT_6, initT_7, initT_8, resV, oneV, binA, unA, reduceCtorEq, Nat.reduceEqDiff, Nat.reduceAdd, Nat.reduceLT, Nat.reduceLeDiff, Nat.reduceMul, Nat.reduceSub, ↓reduceIte, decide_true, decide_false, Bool.true_eq_false, Bool.false_eq_true, Bool.not_true, Bool.not_false, if_true, if_false, and_true, true_and, memE, celE, w64, Nat.zero_add, Nat.add_zero, Nat.mul_one, putL, and_self, ldn, c_impl_isFresh, r_impl_isFresh, g]
    exact newQ_nil ⟨by simp [g], rfl⟩
end Go.Proofs.Ytdgfbmilbhckiaa.Ab
end
section
namespace Go.Proofs.Ytdgfbmilbhckiaa.Ab
open Go Go.RowKit Go.Proofs
set_option maxRecDepth 100000
def c_spec_LostBound : ACode := .seq (.reg [⟨(some 2), .box 26 (.tmp 0), none⟩,
  ⟨(some 4), .mv (.const (.int .i64 0)), none⟩,
  ⟨(some 5), .mv (.const (.bool false)), none⟩])
 (.seq (.seq (.reg [⟨(some 6), .ld (some 5) (.tmp 2), none⟩,
  ⟨(some 7), .call (.func 46) [(.tmp 6)], none⟩,
  ⟨(some 8), .un .not (.tmp 7), none⟩,
  ⟨(some 9), .mv (.tmp 8), none⟩,
  ⟨(some 10), .mv (.tmp 1), (some (9, false))⟩,
  ⟨(some 11), .fad 2 (.tmp 2), (some (9, false))⟩,
  ⟨(some 12), .ld none (.tmp 11), (some (9, false))⟩,
  ⟨(some 13), .len (.tmp 12), (some (9, false))⟩,
  ⟨(some 14), .bin .sub (.tmp 13) (.const (.int .i64 1)), (some (9, false))⟩,
  ⟨(some 15), .call (.func 76) [(.tmp 10), (.const (.int .i64 0)), (.tmp 14)], (some (9, false))⟩,
  ⟨(some 16), .un .not (.tmp 15), (some (9, false))⟩,
  ⟨(some 17), .pick (.tmp 9) (.const (.bool true)) (.tmp 16), none⟩])
 (.cond (.tmp 17) (.seq (.reg [⟨(some 4), .mv (.const (.int .i64 0)), none⟩,
  ⟨(some 5), .mv (.const (.bool false)), none⟩])
 (.ret)) (.skip)))
 (.seq (.reg [⟨(some 18), .ld (some 5) (.tmp 2), none⟩,
  ⟨(some 19), .mv (.tmp 1), none⟩,
  ⟨(some 20), .call (.func 61) [(.tmp 18), (.tmp 19)], none⟩,
  ⟨(some 4), .mv (.tmp 20), none⟩,
  ⟨(some 5), .mv (.const (.bool true)), none⟩])
 (.ret)))
def r_spec_LostBound : List ARes := [.tmp 4, .tmp 5]
theorem ok_spec_LostBound : FnOk Try.prog 34 21 c_spec_LostBound r_spec_LostBound := ⟨⟨Try.f34, _, Try.func34, by kernel_rfl, rfl, rfl, by kernel_rfl, by kernel_rfl⟩⟩
end Go.Proofs.Ytdgfbmilbhckiaa.Ab
end
section
namespace Go.Proofs.Ytdgfbmilbhckiaa.Ab
open Go Go.RowKit
set_option linter.unusedVariables false
set_option linter.unusedSimpArgs false
theorem app_all {M : Mem} {l0 l : List Int} {id : Nat} {v : Value} (h : OwnR M id l0) (hi : IntsA M v l) (hb : l0.length + l.length ≤ 1048576) :
    appP M 3 1 8 (.slice (some ⟨id, 0, none⟩) l0.length 1) v = some (.slice (some ⟨M.length, 0, none⟩) (l0.length + l.length) 1, M.set id deadB ++ [⟨.own, 3, (l0 ++ l).map (Value.int .i64)⟩]) := by
  unfold appP
  rw [hi.src]
  simp only [onesB_ints, if_true, appA, hi.lenOf]
  rw [show M[id]? = some (rowB l0) from h]
  simp only [List.length_map, Nat.mul_one, true_and]
  rw [if_pos (by omega)]
  simp
theorem app_own {M : Mem} {l : List Int} {v : Value} (hi : IntsA M v l) (hb : l.length ≤ 1048576) :
    appP (M ++ [⟨.own, 3, []⟩]) 3 1 8 (.slice (some ⟨M.length, 0, none⟩) 0 1) v = some (.slice (some ⟨M.length + 1, 0, none⟩) l.length 1, M ++ [deadB] ++ [⟨.own, 3, l.map (Value.int .i64)⟩]) := by
  have := app_all (OwnR.at_end M []) (hi.ext [⟨.own, 3, []⟩]) (by simpa using hb)
  simpa using this
theorem bsl_none' {m : Mem} : bslA m 3 1 0 [] [] = some (.slice (some ⟨m.length, 0, none⟩) 0 1, m ++ [⟨.own, 3, []⟩]) := rfl

theorem l1Own_rc (m : Mem) (v : Value) (l : List Int) (h : IntsA m v l) (hl : l.length ≤ 1048576) : RC Try.prog 96 [v] m (AnsR m l) := by
  refine rc_of_run mixed ok_spec_l1Own (by simp) (go_start _ _ _ ?_)
  have hr := h.ro
  have ha := app_own hr hl
  rw [roM_len] at ha
  simp (config := {implicitDefEqProofs := false, maxDischargeDepth := 20}) (disch := first | omega | (simp only [lenE]; done) | (simp only [lenE]; omega) | rfl | (simp only [lenE, markR_len]; done) | (simp only [lenE, markR_len]; omega)) only [runE, mapE, listE, initT_5, initT_6, initT_7, initT_8, resV, oneV, binA, unA, reduceCtorEq, Nat.reduceEqDiff, Nat.reduceAdd, Nat.reduceLT, Nat.reduceLeDiff, Nat.reduceMul, Nat.reduceSub, ↓reduceIte, decide_true, decide_false, Bool.true_eq_false, Bool.false_eq_true, Bool.not_true, Bool.not_false, if_true, if_false, and_true, true_and, memE, celE, w64, Nat.zero_add, Nat.add_zero, Nat.mul_one, putL, and_self, ldn, c_spec_l1Own, r_spec_l1Own, bsl_none', ha]
  exact ext_ansR (((Ext.refl m).app (noRo_dead noRo_nil)).one _ _) (OwnR.end' (by simp [roM_len])) (by omega) rfl hl

end Go.Proofs.Ytdgfbmilbhckiaa.Ab
end
section
namespace Go.Proofs.Ytdgfbmilbhckiaa.Ab
open Go Go.RowKit
set_option linter.unusedVariables false
set_option linter.unusedSimpArgs false
theorem VL.one1 {ρ : Places} {x : Value} {cs : List Value} (h : VL ρ [x] cs) : ∃ y, cs = [y] ∧ VR ρ x y := by
  obtain ⟨hl, hp⟩ := h
  match cs, hl with
  | [y], _ => exact ⟨y, rfl, hp 0 x y rfl rfl⟩
theorem FnOk.fn {P : Program} {f : FuncId} {n : Nat} {c : ACode} {res : List ARes} (hf : FnOk P f n c res) : ∃ fn, P.funcs[f]? = some fn ∧ (fn.name == "runtime.NumGoroutine") = false ∧ fn.body.isNone = false := by
  obtain ⟨fn, C, hfn, hname, hb, _⟩ := hf.ok
  exact ⟨fn, hfn, hname, by rw [hb]; rfl⟩
theorem VR.empty {ρ : Places} {id c : Nat} {A : Option Addr} {p : Nat × Nat × Nat} (h : ρ[id]? = some p) (hc : c ≤ maxLen) : VR ρ (.slice (some ⟨id, 0, none⟩) 0 0) (.slice A 0 c) := by
  obtain ⟨b, o, t⟩ := p
  exact .sl h (Nat.zero_le _) hc (fun _ h => absurd h (by omega)) (fun h => absurd h (by omega))
theorem clone0_rc (m : Mem) (v : Value) (hv : v = .slice none 0 0 ∨ ∃ id off fl, v = .slice (some ⟨id, off, none⟩) 0 fl) : RC Try.prog 110 [v] m (AnsR m []) := by
  refine ⟨ok_slices_Clone.fn, fun ρ w cargs hm ha => ?_⟩
  obtain ⟨y, rfl, hy⟩ := ha.one1
  have hs : ∃ A c, y = .slice A 0 c := by
    rcases hv with rfl | ⟨id, off, fl, rfl⟩
    · cases hy; exact ⟨_, _, rfl⟩
    · cases hy; exact ⟨_, _, rfl⟩
  obtain ⟨A, c, rfl⟩ := hs
  have fin : ∀ (A' : Option Addr) (c' : Nat) (w' : World), c' ≤ maxLen → Below w.heap.size w w' → ∃ v v' new ρn, Ending.returned (.slice A' 0 c') = .returned v' ∧ AnsR m [] v new ∧ NoRo new ∧ MRel w w.heap.size (ρ ++ ρn) (roM m ++ new) w' ∧ VR (ρ ++ ρn) v v' := by
    intro A' c' w' hc hb
    have hm2 := hm.keep hb
    have hm3 := hm2.add (e := 3) (xs := []) (g := 0) (tot := 0) (by simp) (fun h => absurd h (by omega)) (fun h => absurd h (by omega))
    refine ⟨.slice (some ⟨m.length, 0, none⟩) 0 0, _, [⟨.own, 3, []⟩], [(0, 0, 0)], rfl, ⟨noRo_own noRo_nil, by simp, 0, 0, rfl, rfl⟩, noRo_own noRo_nil, hm3, ?_⟩
    have hlen : ρ.length = m.length := by rw [hm.len]; simp [roM_len]
    exact VR.empty (p := (0, 0, 0)) (by rw [← hlen]; simp) hc
  cases A with
  | none =>
    refine (Try.slices_Clone_int_nil 0 c w).mono ?_
    rintro e w' ⟨rfl, rfl⟩
    exact fin none 0 _ (Nat.zero_le _) (Below.refl _ _)
  | some a =>
    refine (Try.slices_Clone_int_zero a c w).mono ?_
    rintro e w' ⟨v', rfl, ho, hn, hb⟩
    rcases ho.2 with ⟨rfl, _⟩ | ⟨g, cap, cur, rfl, _, _, _, hc, _⟩
    · exact fin none 0 w' (Nat.zero_le _) hb
    · exact fin _ cap w' hc hb
theorem clone_rc (m : Mem) (v : Value) (l : List Int) (h : IntsA m v l) (hl : l.length ≤ 1048576) : RC Try.prog 110 [v] m (AnsR m l) := by
  by_cases h0 : l = []
  · subst h0
    refine clone0_rc m v ?_
    rcases h.form with ⟨rfl, _⟩ | ⟨id, off, fl, rfl⟩
    · exact .inl rfl
    · exact .inr ⟨id, off, fl, rfl⟩
  · have hpos : 0 < l.length := List.length_pos_iff.2 h0
    refine rc_of_run mixed ok_slices_Clone (by simp) (go_start _ _ _ ?_)
    have hr := h.ro
    have ha := app_own hr hl
    rw [roM_len] at ha
    have hsl : slnA false v = some (.bool false) := by
      rcases h.form with ⟨_, e⟩ | ⟨id, off, fl, rfl⟩
      · exact absurd e h0
      · obtain ⟨n, hn⟩ : ∃ n, l.length = n + 1 := ⟨l.length - 1, by omega⟩
        rw [hn]; rfl
    simp (config := {implicitDefEqProofs := false, maxDischargeDepth := 20}) (disch := first | omega | (simp only [lenE]; done) | (simp only [lenE]; omega) | rfl | (simp only [lenE, markR_len]; done) | (simp only [lenE, markR_len]; omega)) only [runE, mapE, listE, initT_5, initT_6, initT_7, initT_8, resV, oneV, binA, unA, reduceCtorEq, Nat.reduceEqDiff, Nat.reduceAdd, Nat.reduceLT, Nat.reduceLeDiff, Nat.reduceMul, Nat.reduceSub, ↓reduceIte, decide_true, decide_false, Bool.true_eq_false, Bool.false_eq_true, Bool.not_true, Bool.not_false, if_true, if_false, and_true, true_and, memE, celE, w64, Nat.zero_add, Nat.add_zero, Nat.mul_one, putL, and_self, ldn, c_slices_Clone, r_slices_Clone, hsl, bsl_none', ha]
    exact ext_ansR (((Ext.refl m).app (noRo_dead noRo_nil)).one _ _) (OwnR.end' (by simp [roM_len])) (by omega) rfl hl
end Go.Proofs.Ytdgfbmilbhckiaa.Ab
end
section
namespace Go.Proofs.Ytdgfbmilbhckiaa.Ab
open Go Go.RowKit
set_option linter.unusedVariables false
theorem BoxA.ld5 {m : Mem} {id : Nat} {a b c d e : Value} (h : BoxA m id [a, b, c, d, e]) : ldA m (some 5) (.pointer (some ⟨id, 0, none⟩)) = some (.agg #[a, b, c, d, e]) := by
  obtain ⟨_, h⟩ := h
  simp [ldA, rdn, rdc, h]
theorem IntsA.one {m : Mem} {v : Value} {l : List Int} (h : IntsA m v l) (xs : List Value) : onesB (v :: xs) = onesB xs := by
  rcases h.form with ⟨rfl, _⟩ | ⟨id, off, fl, rfl⟩ <;> exact onesB_sl _ _ _ _
end Go.Proofs.Ytdgfbmilbhckiaa.Ab
end
section
namespace Go.Proofs.Ytdgfbmilbhckiaa.Ab
open Go Go.RowKit
set_option linter.unusedVariables false
set_option linter.unusedSimpArgs false
theorem stP_agg5' (m : Mem) (id off : Nat) (u v w x y : Value) : stP m 5 (.pointer (some ⟨id, off, none⟩)) (.agg #[u, v, w, x, y]) = stA m id off [u, v, w, x, y] := rfl
theorem OwnB.ld5' {M : Mem} {id : Nat} {e : TypeId} {a b c d f : Value} (h : OwnB M id e [a, b, c, d, f]) : ldA M (some 5) (.pointer (some ⟨id, 0, none⟩)) = some (.agg #[a, b, c, d, f]) := by
  exact BoxA.ld5 ⟨e, h⟩
def LeftR (m : Mem) (s : Sh) (A N : List Int) (M : Mem) (r : Value) : Prop :=
  ∃ ia ib fa fb, ia ≠ ib ∧ m.length ≤ ia ∧ m.length ≤ ib ∧ r = shV s (.slice (some ⟨ia, 0, none⟩) A.length fa) (.slice (some ⟨ib, 0, none⟩) N.length fb) ∧ OwnR M ia A ∧ OwnR M ib N
def AnsLeft (m : Mem) (s : Sh) (A N : List Int) (r : Value) (new : Mem) : Prop := NoRo new ∧ LeftR m s A N (m ++ new) r
theorem LeftR.swap {m n0 : Mem} {s : Sh} {A N : List Int} {r : Value} (h : LeftR m s A N (roM m ++ n0) r) : LeftR m s A N (m ++ n0) r := by
  obtain ⟨ia, ib, fa, fb, hne, h1, h2, rfl, ha, hb⟩ := h
  refine ⟨ia, ib, fa, fb, hne, h1, h2, rfl, ha.at_ ?_, hb.at_ ?_⟩
  · rw [List.getElem?_append_right h1, List.getElem?_append_right (by rw [roM_len]; exact h1), roM_len]
  · rw [List.getElem?_append_right h2, List.getElem?_append_right (by rw [roM_len]; exact h2), roM_len]
theorem ext_left {m M : Mem} {s : Sh} {A N : List Int} {r : Value} (h : Ext m M) (hl : LeftR m s A N M r) : newQ m (AnsLeft m s A N) r M := by
  obtain ⟨n0, rfl, h0⟩ := h
  exact ⟨n0, rfl, h0, h0, hl.swap⟩
theorem copyOf_rc (m : Mem) (v : Value) (s : Sh) (h : ShA m v s) (l1 : s.arr.length ≤ 1048576) (l2 : s.need.length ≤ 1048576) :
    RC Try.prog 93 [v] m (AnsLeft m s s.arr s.need) := by
  refine rc_of_run mixed ok_impl_copyOf (by simp) (go_start _ _ _ ?_)
  obtain ⟨a, b, rfl, ha, hb⟩ := h.ro
  simp (config := {implicitDefEqProofs := false, maxDischargeDepth := 20}) (disch := first | omega | (simp only [lenE]; done) | (simp only [lenE]; omega) | rfl | (simp only [lenE, markR_len]; done) | (simp only [lenE, markR_len]; omega)) only [runE, mapE, listE, initT_5, initT_6, initT_7, initT_8, resV, oneV, binA, unA, reduceCtorEq, Nat.reduceEqDiff, Nat.reduceAdd, Nat.reduceLT, Nat.reduceLeDiff, Nat.reduceMul, Nat.reduceSub, ↓reduceIte, decide_true, decide_false, Bool.true_eq_false, Bool.false_eq_true, Bool.not_true, Bool.not_false, if_true, if_false, and_true, true_and, memE, celE, w64, Nat.zero_add, Nat.add_zero, Nat.mul_one, putL, and_self, ldn, c_impl_copyOf, r_impl_copyOf]
  obtain ⟨M0, hM0⟩ : ∃ M0, M0 = roM m ++ [⟨.own, 26, [.int .i64 s.life, a, b, .int .i64 s.waste, .int .i64 s.lost]⟩] ++ [⟨.own, 26, [.int .i64 0, .slice none 0 0, .slice none 0 0, .int .i64 0, .int .i64 0]⟩] := ⟨_, rfl⟩
  rw [← hM0]
  have hX : Ext m M0 := by rw [hM0]; exact ((Ext.refl m).one _ _).one _ _
  have o1 : OwnB M0 m.length 26 [.int .i64 s.life, a, b, .int .i64 s.waste, .int .i64 s.lost] := by rw [hM0]; exact (OwnB.here (by simp [roM_len])).ext _
  have o2 : OwnB M0 (m.length + 1) 26 [.int .i64 0, .slice none 0 0, .slice none 0 0, .int .i64 0, .int .i64 0] := by rw [hM0]; exact OwnB.here (by simp [roM_len])
  have hl0 := o2.lt
  refine rcallH_rc (clone_rc _ a s.arr (hX.ints ha) l1) ?_
  intro r n1 hA
  obtain ⟨ia, fa, rfl, ga, oa, -, nr1⟩ := hA.row
  replace hX := hX.app nr1
  replace o1 := o1.ext n1
  replace o2 := o2.ext n1
  obtain ⟨M1, hM1⟩ : ∃ M1, M1 = M0 ++ n1 := ⟨_, rfl⟩
  rw [← hM1] at hX o1 o2 oa ⊢
  simp (config := {implicitDefEqProofs := false, maxDischargeDepth := 20}) (disch := first | omega | (simp only [lenE]; done) | (simp only [lenE]; omega) | rfl | (simp only [lenE, markR_len]; done) | (simp only [lenE, markR_len]; omega)) only [runE, mapE, listE, initT_5, initT_6, initT_7, initT_8, resV, oneV, binA, unA, reduceCtorEq, Nat.reduceEqDiff, Nat.reduceAdd, Nat.reduceLT, Nat.reduceLeDiff, Nat.reduceMul, Nat.reduceSub, ↓reduceIte, decide_true, decide_false, Bool.true_eq_false, Bool.false_eq_true, Bool.not_true, Bool.not_false, if_true, if_false, and_true, true_and, memE, celE, w64, Nat.zero_add, Nat.add_zero, Nat.mul_one, putL, and_self, ldn, o1.rd]
  refine rcallH_rc (clone_rc _ b s.need (hX.ints hb) l2) ?_
  intro r n2 hB
  obtain ⟨ib, fb, rfl, gb, ob, -, nr2⟩ := hB.row
  replace hX := hX.app nr2
  replace o1 := o1.ext n2
  replace o2 := o2.ext n2
  have ol := oa.lt
  replace oa := oa.ext n2
  obtain ⟨M2, hM2⟩ : ∃ M2, M2 = M1 ++ n2 := ⟨_, rfl⟩
  rw [← hM2] at hX o1 o2 oa ob ⊢
  have s1 := o1.st (off := 1) (vs := [.slice (some ⟨ia, 0, none⟩) s.arr.length fa]) (by simp) rfl
  simp (config := {implicitDefEqProofs := false, maxDischargeDepth := 20}) (disch := first | omega | (simp only [lenE]; done) | (simp only [lenE]; omega) | rfl | (simp only [lenE, markR_len]; done) | (simp only [lenE, markR_len]; omega)) only [runE, mapE, listE, initT_5, initT_6, initT_7, initT_8, resV, oneV, binA, unA, reduceCtorEq, Nat.reduceEqDiff, Nat.reduceAdd, Nat.reduceLT, Nat.reduceLeDiff, Nat.reduceMul, Nat.reduceSub, ↓reduceIte, decide_true, decide_false, Bool.true_eq_false, Bool.false_eq_true, Bool.not_true, Bool.not_false, if_true, if_false, and_true, true_and, memE, celE, w64, Nat.zero_add, Nat.add_zero, Nat.mul_one, putL, and_self, ldn, s1]
  have q1 := o1.set_self 26 [.int .i64 s.life, .slice (some ⟨ia, 0, none⟩) s.arr.length fa, b, .int .i64 s.waste, .int .i64 s.lost]
  have q2 := o2.set_ne (id := m.length) (by omega) ⟨.own, 26, [.int .i64 s.life, .slice (some ⟨ia, 0, none⟩) s.arr.length fa, b, .int .i64 s.waste, .int .i64 s.lost]⟩
  have qa : OwnR (M2.set m.length ⟨.own, 26, [.int .i64 s.life, .slice (some ⟨ia, 0, none⟩) s.arr.length fa, b, .int .i64 s.waste, .int .i64 s.lost]⟩) ia s.arr := OwnR.at_ oa (by rw [List.getElem?_set_ne (by omega)])
  have qb : OwnR (M2.set m.length ⟨.own, 26, [.int .i64 s.life, .slice (some ⟨ia, 0, none⟩) s.arr.length fa, b, .int .i64 s.waste, .int .i64 s.lost]⟩) ib s.need := OwnR.at_ ob (by rw [List.getElem?_set_ne (by omega)])
  have qX := hX.put (id := m.length) (by omega) 26 [.int .i64 s.life, .slice (some ⟨ia, 0, none⟩) s.arr.length fa, b, .int .i64 s.waste, .int .i64 s.lost]
  obtain ⟨M3, hM3⟩ : ∃ M3, M3 = M2.set m.length ⟨.own, 26, [.int .i64 s.life, .slice (some ⟨ia, 0, none⟩) s.arr.length fa, b, .int .i64 s.waste, .int .i64 s.lost]⟩ := ⟨_, rfl⟩
  rw [← hM3] at q1 q2 qa qb qX ⊢
  have s2 := q1.st (off := 2) (vs := [.slice (some ⟨ib, 0, none⟩) s.need.length fb]) (by simp) rfl
  simp (config := {implicitDefEqProofs := false, maxDischargeDepth := 20}) (disch := first | omega | (simp only [lenE]; done) | (simp only [lenE]; omega) | rfl | (simp only [lenE, markR_len]; done) | (simp only [lenE, markR_len]; omega)) only [runE, mapE, listE, initT_5, initT_6, initT_7, initT_8, resV, oneV, binA, unA, reduceCtorEq, Nat.reduceEqDiff, Nat.reduceAdd, Nat.reduceLT, Nat.reduceLeDiff, Nat.reduceMul, Nat.reduceSub, ↓reduceIte, decide_true, decide_false, Bool.true_eq_false, Bool.false_eq_true, Bool.not_true, Bool.not_false, if_true, if_false, and_true, true_and, memE, celE, w64, Nat.zero_add, Nat.add_zero, Nat.mul_one, putL, and_self, ldn, s2]
  have r1 := q1.set_self 26 [.int .i64 s.life, .slice (some ⟨ia, 0, none⟩) s.arr.length fa, .slice (some ⟨ib, 0, none⟩) s.need.length fb, .int .i64 s.waste, .int .i64 s.lost]
  have r2 := q2.set_ne (id := m.length) (by omega) ⟨.own, 26, [.int .i64 s.life, .slice (some ⟨ia, 0, none⟩) s.arr.length fa, .slice (some ⟨ib, 0, none⟩) s.need.length fb, .int .i64 s.waste, .int .i64 s.lost]⟩
  have ra : OwnR (M3.set m.length ⟨.own, 26, [.int .i64 s.life, .slice (some ⟨ia, 0, none⟩) s.arr.length fa, .slice (some ⟨ib, 0, none⟩) s.need.length fb, .int .i64 s.waste, .int .i64 s.lost]⟩) ia s.arr := OwnR.at_ qa (by rw [List.getElem?_set_ne (by omega)])
  have rb : OwnR (M3.set m.length ⟨.own, 26, [.int .i64 s.life, .slice (some ⟨ia, 0, none⟩) s.arr.length fa, .slice (some ⟨ib, 0, none⟩) s.need.length fb, .int .i64 s.waste, .int .i64 s.lost]⟩) ib s.need := OwnR.at_ qb (by rw [List.getElem?_set_ne (by omega)])
  have rX := qX.put (id := m.length) (by omega) 26 [.int .i64 s.life, .slice (some ⟨ia, 0, none⟩) s.arr.length fa, .slice (some ⟨ib, 0, none⟩) s.need.length fb, .int .i64 s.waste, .int .i64 s.lost]
  obtain ⟨M4, hM4⟩ : ∃ M4, M4 = M3.set m.length ⟨.own, 26, [.int .i64 s.life, .slice (some ⟨ia, 0, none⟩) s.arr.length fa, .slice (some ⟨ib, 0, none⟩) s.need.length fb, .int .i64 s.waste, .int .i64 s.lost]⟩ := ⟨_, rfl⟩
  rw [← hM4] at r1 r2 ra rb rX ⊢
  have s3 := r2.st (off := 0) (vs := [.int .i64 s.life, .slice (some ⟨ia, 0, none⟩) s.arr.length fa, .slice (some ⟨ib, 0, none⟩) s.need.length fb, .int .i64 s.waste, .int .i64 s.lost]) (by simp) rfl
  have u2 := r2.set_self 26 [.int .i64 s.life, .slice (some ⟨ia, 0, none⟩) s.arr.length fa, .slice (some ⟨ib, 0, none⟩) s.need.length fb, .int .i64 s.waste, .int .i64 s.lost]
  simp (config := {implicitDefEqProofs := false, maxDischargeDepth := 20}) (disch := first | omega | (simp only [lenE]; done) | (simp only [lenE]; omega) | rfl | (simp only [lenE, markR_len]; done) | (simp only [lenE, markR_len]; omega)) only [runE, mapE, listE, initT_5, initT_6, initT_7, initT_8, resV, oneV, binA, unA, reduceCtorEq, Nat.reduceEqDiff, Nat.reduceAdd, Nat.reduceLT, Nat.reduceLeDiff, Nat.reduceMul, Nat.reduceSub, ↓reduceIte, decide_true, decide_false, Bool.true_eq_false, Bool.false_eq_true, Bool.not_true, Bool.not_false, if_true, if_false, and_true, true_and, memE, celE, w64, Nat.zero_add, Nat.add_zero, Nat.mul_one, putL, and_self, ldn, r1.rd, stP_agg5', s3, u2.rd]
  refine ext_left (rX.put (by omega) _ _) ⟨ia, ib, fa, fb, by omega, by omega, by omega, rfl, OwnR.at_ ra ?_, OwnR.at_ rb ?_⟩
  · rw [List.getElem?_set_ne (by omega)]
  · rw [List.getElem?_set_ne (by omega)]
theorem mostUnits_rc (m : Mem) (s : Sh) (a b : Value) (A N : List Int) (f t : Nat) (ha : IntsA m a A) (hb : IntsA m b N) (hf : f < A.length) (ht : t < N.length) (h1 : f ≤ 100) (hl : 0 ≤ s.life ∧ s.life ≤ 8) :
    RC Try.prog 94 [shV s a b, .agg #[.int .i64 (t : Int), .int .i64 (f : Int)]] m (AnsV (.int .i64 (most9 s.life A N t f))) := by
  refine rc_of_run mixed ok_impl_mostUnits (by simp) (go_start _ _ _ ?_)
  have ha' := ha.ro
  have hb' := hb.ro
  have hX := ((Ext.refl m).one 26 [.int .i64 s.life, a, b, .int .i64 s.waste, .int .i64 s.lost]).one 102 [.int .i64 (t : Int), .int .i64 (f : Int)]
  have xa := hX.ints ha'
  have xb := hX.ints hb'
  simp (config := {implicitDefEqProofs := false, maxDischargeDepth := 20}) (disch := first | omega | (simp only [lenE]; done) | (simp only [lenE]; omega) | rfl | (simp only [lenE, markR_len]; done) | (simp only [lenE, markR_len]; omega)) only [runE, mapE, listE, initT_5, initT_6, initT_7, initT_8, resV, oneV, binA, unA, reduceCtorEq, Nat.reduceEqDiff, Nat.reduceAdd, Nat.reduceLT, Nat.reduceLeDiff, Nat.reduceMul, Nat.reduceSub, ↓reduceIte, decide_true, decide_false, Bool.true_eq_false, Bool.false_eq_true, Bool.not_true, Bool.not_false, if_true, if_false, and_true, true_and, memE, celE, w64, Nat.zero_add, Nat.add_zero, Nat.mul_one, putL, and_self, ldn, c_impl_mostUnits, r_impl_mostUnits]
  refine callH_rc (isFresh_rc _ f t _ h1 hl) ?_
  rintro r new ⟨rfl, rfl⟩
  unfold most9
  cases hu : usB s.life f t with
  | false =>
    simp (config := {implicitDefEqProofs := false, maxDischargeDepth := 20}) (disch := first | omega | (simp only [lenE]; done) | (simp only [lenE]; omega) | rfl | (simp only [lenE, markR_len]; done) | (simp only [lenE, markR_len]; omega)) only [runE, mapE, listE, initT_5, initT_6, initT_7, initT_8, resV, oneV, binA, unA, reduceCtorEq, Nat.reduceEqDiff, Nat.reduceAdd, Nat.reduceLT, Nat.reduceLeDiff, Nat.reduceMul, Nat.reduceSub, ↓reduceIte, decide_true, decide_false, Bool.true_eq_false, Bool.false_eq_true, Bool.not_true, Bool.not_false, if_true, if_false, and_true, true_and, memE, celE, w64, Nat.zero_add, Nat.add_zero, Nat.mul_one, putL, and_self, ldn]
    exact ext_ansV hX rfl
  | true =>
    simp (config := {implicitDefEqProofs := false, maxDischargeDepth := 20}) (disch := first | omega | (simp only [lenE]; done) | (simp only [lenE]; omega) | rfl | (simp only [lenE, markR_len]; done) | (simp only [lenE, markR_len]; omega)) only [runE, mapE, listE, initT_5, initT_6, initT_7, initT_8, resV, oneV, binA, unA, reduceCtorEq, Nat.reduceEqDiff, Nat.reduceAdd, Nat.reduceLT, Nat.reduceLeDiff, Nat.reduceMul, Nat.reduceSub, ↓reduceIte, decide_true, decide_false, Bool.true_eq_false, Bool.false_eq_true, Bool.not_true, Bool.not_false, if_true, if_false, and_true, true_and, memE, celE, w64, Nat.zero_add, Nat.add_zero, Nat.mul_one, putL, and_self, ldn, ha'.at_ f hf, xa.ld f hf, hb'.at_ t ht, xb.ld t ht]
    refine ext_ansV hX ?_
    rfl
theorem takeUnits_ac (M : Mem) (s : Sh) (ia ib fa fb : Nat) (A N : List Int) (f t : Nat) (u : Int) (ha : OwnR M ia A) (hb : OwnR M ib N) (hne : ia ≠ ib) (hf : f < A.length) (ht : t < N.length) (b1 : 0 ≤ A.getD f 0 ∧ A.getD f 0 ≤ 20) (b2 : 0 ≤ N.getD t 0 ∧ N.getD t 0 ≤ 20) (hu : -20 ≤ u ∧ u ≤ 20) :
    AC Try.prog 95 [shV s (.slice (some ⟨ia, 0, none⟩) A.length fa) (.slice (some ⟨ib, 0, none⟩) N.length fb), .agg #[.int .i64 (t : Int), .int .i64 (f : Int)], .int .i64 u] M fun r M' =>
      ∃ R, NoRo R ∧ M' = (M.set ia (Ab.rowB (A.set f (A.getD f 0 - u)))).set ib (Ab.rowB (N.set t (N.getD t 0 - u))) ++ R := by
  refine ac_of_run mixed ok_impl_takeUnits (by simp) (go_start _ _ _ ?_)
  obtain ⟨R, hR⟩ : ∃ R : Mem, R = [⟨.own, 26, [.int .i64 s.life, .slice (some ⟨ia, 0, none⟩) A.length fa, .slice (some ⟨ib, 0, none⟩) N.length fb, .int .i64 s.waste, .int .i64 s.lost]⟩] ++ [⟨.own, 102, [.int .i64 (t : Int), .int .i64 (f : Int)]⟩] := ⟨_, rfl⟩
  have nr : NoRo R := by rw [hR]; exact noRo_app (noRo_own noRo_nil) (noRo_own noRo_nil)
  have ia0 : iadA 1 (.slice (some ⟨ia, 0, none⟩) A.length fa) (.int .i64 (f : Int)) = some (.pointer (some ⟨ia, f, none⟩)) := iad0 rfl hf
  have ib0 : iadA 1 (.slice (some ⟨ib, 0, none⟩) N.length fb) (.int .i64 (t : Int)) = some (.pointer (some ⟨ib, t, none⟩)) := iad0 rfl ht
  obtain ⟨M1, hM1⟩ : ∃ M1, M1 = M ++ R := ⟨_, rfl⟩
  have eM : M1 = M ++ [⟨.own, 26, [.int .i64 s.life, .slice (some ⟨ia, 0, none⟩) A.length fa, .slice (some ⟨ib, 0, none⟩) N.length fb, .int .i64 s.waste, .int .i64 s.lost]⟩] ++ [⟨.own, 102, [.int .i64 (t : Int), .int .i64 (f : Int)]⟩] := by rw [hM1, hR, List.append_assoc]
  have oa : OwnR M1 ia A := by rw [hM1]; exact ha.ext _
  have ob : OwnR M1 ib N := by rw [hM1]; exact hb.ext _
  have o1 : OwnB M1 M.length 26 [.int .i64 s.life, .slice (some ⟨ia, 0, none⟩) A.length fa, .slice (some ⟨ib, 0, none⟩) N.length fb, .int .i64 s.waste, .int .i64 s.lost] := by rw [eM]; exact (OwnB.here rfl).ext _
  have o2 : OwnB M1 (M.length + 1) 102 [.int .i64 (t : Int), .int .i64 (f : Int)] := by rw [eM]; exact OwnB.here (by simp)
  have la := ha.lt
  have lb := hb.lt
  have ka := oa.rd' (i := f) hf
  have sa := oa.st (off := f) (x := A.getD f 0 - u) hf
  have oa2 := oa.set_self (L' := A.set f (A.getD f 0 - u))
  have ob2 : OwnR (M1.set ia (Ab.rowB (A.set f (A.getD f 0 - u)))) ib N := ob.set_ne hne
  have o12 := o1.set_ne (id := ia) (by omega) (Ab.rowB (A.set f (A.getD f 0 - u)))
  have o22 := o2.set_ne (id := ia) (by omega) (Ab.rowB (A.set f (A.getD f 0 - u)))
  have kb := ob2.rd' (i := t) ht
  have sb := ob2.st (off := t) (x := N.getD t 0 - u) ht
  simp (config := {implicitDefEqProofs := false, maxDischargeDepth := 20}) (disch := first | omega | (simp only [lenE]; done) | (simp only [lenE]; omega) | rfl | (simp only [lenE, markR_len]; done) | (simp only [lenE, markR_len]; omega)) only [runE, mapE, listE, initT_5, initT_6, initT_7, initT_8, resV, oneV, binA, unA, reduceCtorEq, Nat.reduceEqDiff, Nat.reduceAdd, Nat.reduceLT, Nat.reduceLeDiff, Nat.reduceMul, Nat.reduceSub, ↓reduceIte, decide_true, decide_false, Bool.true_eq_false, Bool.false_eq_true, Bool.not_true, Bool.not_false, if_true, if_false, and_true, true_and, memE, celE, w64, Nat.zero_add, Nat.add_zero, Nat.mul_one, putL, and_self, ldn, c_impl_takeUnits, r_impl_takeUnits]
  rw [← eM]
  simp (config := {implicitDefEqProofs := false, maxDischargeDepth := 20}) (disch := first | omega | (simp only [lenE]; done) | (simp only [lenE]; omega) | rfl | (simp only [lenE, markR_len]; done) | (simp only [lenE, markR_len]; omega)) only [runE, mapE, listE, initT_5, initT_6, initT_7, initT_8, resV, oneV, binA, unA, reduceCtorEq, Nat.reduceEqDiff, Nat.reduceAdd, Nat.reduceLT, Nat.reduceLeDiff, Nat.reduceMul, Nat.reduceSub, ↓reduceIte, decide_true, decide_false, Bool.true_eq_false, Bool.false_eq_true, Bool.not_true, Bool.not_false, if_true, if_false, and_true, true_and, memE, celE, w64, Nat.zero_add, Nat.add_zero, Nat.mul_one, putL, and_self, ldn, ia0, ka, o1.rd, o2.rd, sa]
  obtain ⟨M2, hM2⟩ : ∃ M2, M2 = M1.set ia (Ab.rowB (A.set f (A.getD f 0 - u))) := ⟨_, rfl⟩
  rw [← hM2] at o12 o22 kb sb ⊢
  simp (config := {implicitDefEqProofs := false, maxDischargeDepth := 20}) (disch := first | omega | (simp only [lenE]; done) | (simp only [lenE]; omega) | rfl | (simp only [lenE, markR_len]; done) | (simp only [lenE, markR_len]; omega)) only [runE, mapE, listE, initT_5, initT_6, initT_7, initT_8, resV, oneV, binA, unA, reduceCtorEq, Nat.reduceEqDiff, Nat.reduceAdd, Nat.reduceLT, Nat.reduceLeDiff, Nat.reduceMul, Nat.reduceSub, ↓reduceIte, decide_true, decide_false, Bool.true_eq_false, Bool.false_eq_true, Bool.not_true, Bool.not_false, if_true, if_false, and_true, true_and, memE, celE, w64, Nat.zero_add, Nat.add_zero, Nat.mul_one, putL, and_self, ldn, ib0, kb, o12.rd, o22.rd, sb]
  refine ⟨R, nr, ?_⟩
  rw [hM2, hM1, List.set_append_left _ _ la, List.set_append_left _ _ (by rw [List.length_set]; exact lb)]
theorem TabA.rowAt {m M : Mem} {vt : Value} {T : List (List Int)} (h : TabA m vt T) (hX : Ext m M) {t : Nat} (ht : t < T.length) : ∃ w, ldA M none (pAt vt t) = some w ∧ IntsA (roM m) w (T.getD t []) := by
  obtain ⟨n0, rfl, _⟩ := hX
  obtain ⟨w, h1, h2⟩ := h.ro.ld t ht
  exact ⟨w, ldA_ext h1, h2⟩
theorem bld0 (a b c d e : Value) : bldA [a, b, c, d, e] [] = some (.agg #[a, b, c, d, e]) := rfl
theorem bld2u (a b : Value) (u v : Int) : bldA [a, b] [(0, 1, .int .i64 u), (1, 1, .int .i64 v)] = some (.agg #[.int .i64 u, .int .i64 v]) := rfl
theorem stP_agg2u (m : Mem) (id off : Nat) (u v : Value) : stP m 2 (.pointer (some ⟨id, off, none⟩)) (.agg #[u, v]) = stA m id off [u, v] := rfl
def noShV : Value := .agg #[.int .i64 0, .slice none 0 0, .slice none 0 0, .int .i64 0, .int .i64 0]
def AnsLB (m : Mem) (s : Sh) (b : Bool) (A N : List Int) (r : Value) (new : Mem) : Prop :=
  NoRo new ∧ ((b = false ∧ r = .tuple #[noShV, .bool false]) ∨ (b = true ∧ ∃ v, r = .tuple #[v, .bool true] ∧ LeftR m s A N (m ++ new) v))
theorem ext_noLB {m M : Mem} {s : Sh} {b : Bool} {A N : List Int} (h : Ext m M) (hb : b = false) : newQ m (AnsLB m s b A N) (.tuple #[noShV, .bool false]) M := by
  obtain ⟨n0, rfl, h0⟩ := h
  exact ⟨n0, rfl, h0, h0, .inl ⟨hb, rfl⟩⟩
theorem ext_yesLB {m M : Mem} {s : Sh} {b : Bool} {A N : List Int} {v : Value} (h : Ext m M) (hb : b = true) (hl : LeftR m s A N M v) : newQ m (AnsLB m s b A N) (.tuple #[v, .bool true]) M := by
  obtain ⟨n0, rfl, h0⟩ := h
  exact ⟨n0, rfl, h0, h0, .inr ⟨hb, v, rfl, hl.swap⟩⟩
theorem leftBehind_rc (m : Mem) (v vt : Value) (s : Sh) (T : List (List Int)) (h : ShA m v s) (hT : TabA m vt T) (hg : GoodSh s) (hn : T.length ≤ s.need.length) :
    RC Try.prog 70 [v, vt] m (AnsLB m s (decide (irows s T T.length)) (leftArr s T T.length) (leftNeed s T T.length)) := by
  refine rc_of_run mixed ok_impl_leftBehind (by simp) (go_start _ _ _ ?_)
  obtain ⟨a, b, rfl, ha, hb⟩ := h.ro
  have hla := hg.la
  have n8 := hg.n8
  have hX := ((Ext.refl m).one 26 [.int .i64 s.life, a, b, .int .i64 s.waste, .int .i64 s.lost]).one 26 [.int .i64 0, .slice none 0 0, .slice none 0 0, .int .i64 0, .int .i64 0]
  have o1 : OwnB (roM m ++ [⟨.own, 26, [.int .i64 s.life, a, b, .int .i64 s.waste, .int .i64 s.lost]⟩] ++ [⟨.own, 26, [.int .i64 0, .slice none 0 0, .slice none 0 0, .int .i64 0, .int .i64 0]⟩]) m.length 26 [.int .i64 s.life, a, b, .int .i64 s.waste, .int .i64 s.lost] := (OwnB.here (by simp [roM_len])).ext _
  have o2 : OwnB (roM m ++ [⟨.own, 26, [.int .i64 s.life, a, b, .int .i64 s.waste, .int .i64 s.lost]⟩] ++ [⟨.own, 26, [.int .i64 0, .slice none 0 0, .slice none 0 0, .int .i64 0, .int .i64 0]⟩]) (m.length + 1) 26 [.int .i64 0, .slice none 0 0, .slice none 0 0, .int .i64 0, .int .i64 0] := OwnB.here (by simp [roM_len])
  simp (config := {implicitDefEqProofs := false, maxDischargeDepth := 20}) (disch := first | omega | (simp only [lenE]; done) | (simp only [lenE]; omega) | rfl | (simp only [lenE, markR_len]; done) | (simp only [lenE, markR_len]; omega)) only [runE, mapE, listE, initT_5, initT_6, initT_7, initT_8, resV, oneV, binA, unA, reduceCtorEq, Nat.reduceEqDiff, Nat.reduceAdd, Nat.reduceLT, Nat.reduceLeDiff, Nat.reduceMul, Nat.reduceSub, ↓reduceIte, decide_true, decide_false, Bool.true_eq_false, Bool.false_eq_true, Bool.not_true, Bool.not_false, if_true, if_false, and_true, true_and, memE, celE, w64, Nat.zero_add, Nat.add_zero, Nat.mul_one, putL, and_self, ldn, c_impl_leftBehind, r_impl_leftBehind]
  obtain ⟨M0, hM0⟩ : ∃ M0, M0 = roM m ++ [⟨.own, 26, [.int .i64 s.life, a, b, .int .i64 s.waste, .int .i64 s.lost]⟩] ++ [⟨.own, 26, [.int .i64 0, .slice none 0 0, .slice none 0 0, .int .i64 0, .int .i64 0]⟩] := ⟨_, rfl⟩
  rw [← hM0] at hX o1 o2 ⊢
  have hl0 := o2.lt
  refine callH_rc (copyOf_rc _ _ s (ShA.mk (hX.ints ha) (hX.ints hb)) (by omega) (by omega)) ?_
  rintro r n1 ⟨nr1, ia, ib, fa, fb, hne, ga, gb, rfl, oa, ob⟩
  replace hX := hX.app nr1
  replace o1 := o1.ext n1
  replace o2 := o2.ext n1
  obtain ⟨M1, hM1⟩ : ∃ M1, M1 = M0 ++ n1 := ⟨_, rfl⟩
  rw [← hM1] at hX o1 o2 oa ob ⊢
  have la := oa.lt
  have lb := ob.lt
  simp (config := {implicitDefEqProofs := false, maxDischargeDepth := 20}) (disch := first | omega | (simp only [lenE]; done) | (simp only [lenE]; omega) | rfl | (simp only [lenE, markR_len]; done) | (simp only [lenE, markR_len]; omega)) only [runE, mapE, listE, initT_5, initT_6, initT_7, initT_8, resV, oneV, binA, unA, reduceCtorEq, Nat.reduceEqDiff, Nat.reduceAdd, Nat.reduceLT, Nat.reduceLeDiff, Nat.reduceMul, Nat.reduceSub, ↓reduceIte, decide_true, decide_false, Bool.true_eq_false, Bool.false_eq_true, Bool.not_true, Bool.not_false, if_true, if_false, and_true, true_and, memE, celE, w64, Nat.zero_add, Nat.add_zero, Nat.mul_one, putL, and_self, ldn, stP_agg5', hT.ro.len]
  have hb1 : OwnB (M1 ++ [⟨.own, 26, [.int .i64 s.life, .slice (some ⟨ia, 0, none⟩) s.arr.length fa, .slice (some ⟨ib, 0, none⟩) s.need.length fb, .int .i64 s.waste, .int .i64 s.lost]⟩]) M1.length 26 [.int .i64 s.life, .slice (some ⟨ia, 0, none⟩) s.arr.length fa, .slice (some ⟨ib, 0, none⟩) s.need.length fb, .int .i64 s.waste, .int .i64 s.lost] := OwnB.here rfl
  obtain ⟨lf, hlf⟩ : ∃ lf, lf = M1.length := ⟨_, rfl⟩
  refine loop_inv mixed (fun s' => ∃ (t : Nat) (M : Mem) (A N : List Int), t ≤ T.length ∧ s'.m = M ∧ Ext m M ∧ OwnB M m.length 26 [.int .i64 s.life, a, b, .int .i64 s.waste, .int .i64 s.lost] ∧ OwnB M (m.length + 1) 26 [.int .i64 0, .slice none 0 0, .slice none 0 0, .int .i64 0, .int .i64 0] ∧
      OwnB M lf 26 [.int .i64 s.life, .slice (some ⟨ia, 0, none⟩) s.need.length fa, .slice (some ⟨ib, 0, none⟩) s.need.length fb, .int .i64 s.waste, .int .i64 s.lost] ∧ OwnR M ia A ∧ OwnR M ib N ∧ LeftAt s T t 0 A N ∧
      s'.t 2 = .pointer (some ⟨m.length, 0, none⟩) ∧ s'.t 4 = .pointer (some ⟨m.length + 1, 0, none⟩) ∧ s'.t 6 = .pointer (some ⟨lf, 0, none⟩) ∧ s'.t 14 = vt ∧ s'.t 15 = .int .i64 (T.length : Int) ∧ s'.t 16 = .int .i64 (t : Int)) (fun s' => T.length - (intOf (s'.t 16)).toNat)
    ⟨0, _, s.arr, s.need, by omega, rfl, hX.one _ _, o1.ext _, o2.ext _, by rw [hlf, ← hla]; rw [← hla] at hb1; exact hb1, oa.ext _, ob.ext _, LeftAt.zero hg, rfl, rfl, by rw [hlf]; rfl, rfl, rfl, rfl⟩ ?_
  rintro s' ⟨t, M, A, N, ht, tm, hX, o1, o2, o3, oa, ob, hL, t2, t4, t6, t14, t15, t16⟩
  by_cases hlt : t < T.length
  · have hlt' : (t : Int) < T.length := by omega
    obtain ⟨w, w1, w2⟩ := hT.rowAt hX hlt
    have wl := (hX.ints w2).len
    by_cases hrow : (T.getD t []).length = s.need.length
    · have hrow' : (((T.getD t []).length : Int) != (s.arr.length : Int)) = false := by rw [hrow, hla]; exact bne_self_eq_false _
      simp (config := {implicitDefEqProofs := false, maxDischargeDepth := 20}) (disch := first | omega | (simp only [lenE]; done) | (simp only [lenE]; omega) | rfl | (simp only [lenE, markR_len]; done) | (simp only [lenE, markR_len]; omega)) only [runE, mapE, listE, initT_5, initT_6, initT_7, initT_8, resV, oneV, binA, unA, reduceCtorEq, Nat.reduceEqDiff, Nat.reduceAdd, Nat.reduceLT, Nat.reduceLeDiff, Nat.reduceMul, Nat.reduceSub, ↓reduceIte, decide_true, decide_false, Bool.true_eq_false, Bool.false_eq_true, Bool.not_true, Bool.not_false, if_true, if_false, and_true, true_and, memE, celE, w64, Nat.zero_add, Nat.add_zero, Nat.mul_one, putL, and_self, ldn, tm, t2, t4, t6, t14, t15, t16, hlt', hT.at_ t hlt, w1, wl, o1.rd, (hX.ints ha).len, hrow']
      clear hb1
      refine loop_inv mixed (fun s' => ∃ (j : Nat) (M : Mem) (A N : List Int), j ≤ (T.getD t []).length ∧ s'.m = M ∧ Ext m M ∧ OwnB M m.length 26 [.int .i64 s.life, a, b, .int .i64 s.waste, .int .i64 s.lost] ∧ OwnB M (m.length + 1) 26 [.int .i64 0, .slice none 0 0, .slice none 0 0, .int .i64 0, .int .i64 0] ∧
          OwnB M lf 26 [.int .i64 s.life, .slice (some ⟨ia, 0, none⟩) s.need.length fa, .slice (some ⟨ib, 0, none⟩) s.need.length fb, .int .i64 s.waste, .int .i64 s.lost] ∧ OwnR M ia A ∧ OwnR M ib N ∧ LeftAt s T t j A N ∧
          s'.t 2 = .pointer (some ⟨m.length, 0, none⟩) ∧ s'.t 4 = .pointer (some ⟨m.length + 1, 0, none⟩) ∧ s'.t 6 = .pointer (some ⟨lf, 0, none⟩) ∧ s'.t 7 = .int .i64 (t : Int) ∧ s'.t 14 = vt ∧ s'.t 15 = .int .i64 (T.length : Int) ∧ s'.t 16 = .int .i64 (t : Int) ∧ s'.t 28 = w ∧ s'.t 29 = .int .i64 ((T.getD t []).length : Int) ∧ s'.t 30 = .int .i64 (j : Int)) (fun s' => s.need.length - (intOf (s'.t 30)).toNat)
        ⟨0, M, A, N, by omega, tm, hX, o1, o2, o3, oa, ob, hL, t2, t4, t6, rfl, t14, t15, t16, rfl, rfl, rfl⟩ ?_
      clear tm hX o1 o2 o3 oa ob hL w1 wl
      rintro s' ⟨j, M, A, N, hj, tm, hX, o1, o2, o3, oa, ob, hL, t2, t4, t6, t7, t14, t15, t16, t28, t29, t30⟩
      by_cases hjt : j < (T.getD t []).length
      · have hjt' : (j : Int) < (T.getD t []).length := by omega
        have wi := hX.ints w2
        have lA := hL.la
        have lN := hL.ln
        simp (config := {implicitDefEqProofs := false, maxDischargeDepth := 20}) (disch := first | omega | (simp only [lenE]; done) | (simp only [lenE]; omega) | rfl | (simp only [lenE, markR_len]; done) | (simp only [lenE, markR_len]; omega)) only [runE, mapE, listE, initT_5, initT_6, initT_7, initT_8, resV, oneV, binA, unA, reduceCtorEq, Nat.reduceEqDiff, Nat.reduceAdd, Nat.reduceLT, Nat.reduceLeDiff, Nat.reduceMul, Nat.reduceSub, ↓reduceIte, decide_true, decide_false, Bool.true_eq_false, Bool.false_eq_true, Bool.not_true, Bool.not_false, if_true, if_false, and_true, true_and, memE, celE, w64, Nat.zero_add, Nat.add_zero, Nat.mul_one, putL, and_self, ldn, tm, t2, t4, t6, t7, t14, t15, t16, t28, t29, t30, hjt', wi.at_ j hjt, wi.ld j hjt, bld2u, stP_agg2u, (o3.ext [⟨.own, 102, [.int .i64 (t : Int), .int .i64 (j : Int)]⟩]).rd]
        have hXe := hX.one 102 [.int .i64 (t : Int), .int .i64 (j : Int)]
        have oae := oa.ext [⟨.own, 102, [.int .i64 (t : Int), .int .i64 (j : Int)]⟩]
        have obe := ob.ext [⟨.own, 102, [.int .i64 (t : Int), .int .i64 (j : Int)]⟩]
        have o1e := o1.ext [⟨.own, 102, [.int .i64 (t : Int), .int .i64 (j : Int)]⟩]
        have o2e := o2.ext [⟨.own, 102, [.int .i64 (t : Int), .int .i64 (j : Int)]⟩]
        have o3e := o3.ext [⟨.own, 102, [.int .i64 (t : Int), .int .i64 (j : Int)]⟩]
        have oue : OwnB (M ++ [⟨.own, 102, [.int .i64 (t : Int), .int .i64 (j : Int)]⟩]) M.length 102 [.int .i64 (t : Int), .int .i64 (j : Int)] := OwnB.here rfl
        obtain ⟨M2, hM2⟩ : ∃ M2, M2 = M ++ [⟨.own, 102, [.int .i64 (t : Int), .int .i64 (j : Int)]⟩] := ⟨_, rfl⟩
        rw [← hM2] at hXe oae obe o1e o2e o3e oue ⊢
        have hlM := hX.len
        have iA := oae.ints (by omega) fa
        have iN := obe.ints (by omega) fb
        rw [lA] at iA
        rw [lN] at iN
        refine callH_rc (mostUnits_rc M2 s _ _ A N j t iA iN (by omega) (by omega) (by omega) ⟨by have := hg.l1; omega, hg.l8⟩) ?_
        rintro r n2 ⟨rfl, nr2⟩
        simp (config := {implicitDefEqProofs := false, maxDischargeDepth := 20}) (disch := first | omega | (simp only [lenE]; done) | (simp only [lenE]; omega) | rfl | (simp only [lenE, markR_len]; done) | (simp only [lenE, markR_len]; omega)) only [runE, mapE, listE, initT_5, initT_6, initT_7, initT_8, resV, oneV, binA, unA, reduceCtorEq, Nat.reduceEqDiff, Nat.reduceAdd, Nat.reduceLT, Nat.reduceLeDiff, Nat.reduceMul, Nat.reduceSub, ↓reduceIte, decide_true, decide_false, Bool.true_eq_false, Bool.false_eq_true, Bool.not_true, Bool.not_false, if_true, if_false, and_true, true_and, memE, celE, w64, Nat.zero_add, Nat.add_zero, Nat.mul_one, putL, and_self, ldn]
        refine callH_rc (isWithin_rc _ _ _) ?_
        rintro r new ⟨rfl, rfl⟩
        cases hw : inB (most9 s.life A N t j) ((T.getD t []).getD j 0) with
        | false =>
          have st2 := (o2e.ext n2).st (off := 0) (vs := [.int .i64 0, .slice none 0 0, .slice none 0 0, .int .i64 0, .int .i64 0]) (by simp) rfl
          have se2 := (o2e.ext n2).set_self 26 [.int .i64 0, .slice none 0 0, .slice none 0 0, .int .i64 0, .int .i64 0]
          simp (config := {implicitDefEqProofs := false, maxDischargeDepth := 20}) (disch := first | omega | (simp only [lenE]; done) | (simp only [lenE]; omega) | rfl | (simp only [lenE, markR_len]; done) | (simp only [lenE, markR_len]; omega)) only [runE, mapE, listE, initT_5, initT_6, initT_7, initT_8, resV, oneV, binA, unA, reduceCtorEq, Nat.reduceEqDiff, Nat.reduceAdd, Nat.reduceLT, Nat.reduceLeDiff, Nat.reduceMul, Nat.reduceSub, ↓reduceIte, decide_true, decide_false, Bool.true_eq_false, Bool.false_eq_true, Bool.not_true, Bool.not_false, if_true, if_false, and_true, true_and, memE, celE, w64, Nat.zero_add, Nat.add_zero, Nat.mul_one, putL, and_self, ldn, t4, bld0, stP_agg5', st2, se2.rd]
          refine ext_noLB ((hXe.app nr2).put (by omega) _ _) ?_
          refine decide_eq_false (hL.bad (by omega) (by omega) hlt hrow fun hc => ?_)
          have := inB_iff.2 hc
          rw [hw] at this; cases this
        | true =>
          have hw' := inB_iff.1 hw
          have ba := hL.a0 j (by omega)
          have bn := hL.n0 t (by omega)
          have hm20 : most9 s.life A N t j ≤ 20 := by
            unfold most9; split <;> omega
          simp (config := {implicitDefEqProofs := false, maxDischargeDepth := 20}) (disch := first | omega | (simp only [lenE]; done) | (simp only [lenE]; omega) | rfl | (simp only [lenE, markR_len]; done) | (simp only [lenE, markR_len]; omega)) only [runE, mapE, listE, initT_5, initT_6, initT_7, initT_8, resV, oneV, binA, unA, reduceCtorEq, Nat.reduceEqDiff, Nat.reduceAdd, Nat.reduceLT, Nat.reduceLeDiff, Nat.reduceMul, Nat.reduceSub, ↓reduceIte, decide_true, decide_false, Bool.true_eq_false, Bool.false_eq_true, Bool.not_true, Bool.not_false, if_true, if_false, and_true, true_and, memE, celE, w64, Nat.zero_add, Nat.add_zero, Nat.mul_one, putL, and_self, ldn, t6, t7, (o3e.ext n2).rd, (oue.ext n2).rd]
          have tk := takeUnits_ac (M2 ++ n2) s ia ib fa fb A N j t ((T.getD t []).getD j 0) (oae.ext n2) (obe.ext n2) hne (by omega) (by omega) ba bn ⟨by omega, by omega⟩
          rw [lA, lN] at tk
          refine callH_ac tk ?_
          rintro r M3 ⟨R, nrR, rfl⟩
          have la2 := (oae.ext n2).lt
          have lb2 := (obe.ext n2).lt
          have hX3 := hXe.app nr2
          obtain ⟨M3, hM3⟩ : ∃ M3, M3 = M2 ++ n2 := ⟨_, rfl⟩
          have o13 := o1e.ext n2
          have o23 := o2e.ext n2
          have o33 := o3e.ext n2
          have oa3 := oae.ext n2
          have ob3 := obe.ext n2
          rw [← hM3] at o13 o23 o33 oa3 ob3 hX3 la2 lb2 ⊢
          simp (config := {implicitDefEqProofs := false, maxDischargeDepth := 20}) (disch := first | omega | (simp only [lenE]; done) | (simp only [lenE]; omega) | rfl | (simp only [lenE, markR_len]; done) | (simp only [lenE, markR_len]; omega)) only [runE, mapE, listE, initT_5, initT_6, initT_7, initT_8, resV, oneV, binA, unA, reduceCtorEq, Nat.reduceEqDiff, Nat.reduceAdd, Nat.reduceLT, Nat.reduceLeDiff, Nat.reduceMul, Nat.reduceSub, ↓reduceIte, decide_true, decide_false, Bool.true_eq_false, Bool.false_eq_true, Bool.not_true, Bool.not_false, if_true, if_false, and_true, true_and, memE, celE, w64, Nat.zero_add, Nat.add_zero, Nat.mul_one, putL, and_self, ldn, tm, t2, t4, t6, t7, t14, t15, t16, t28, t29, t30]
          refine ⟨⟨j + 1, _, _, _, by omega, rfl, ((hX3.put (by omega) _ _).put (by omega) _ _).app nrR, ?_, ?_, ?_, ?_, ?_, hL.next (by omega) (by omega) hrow hw'.1 hw'.2, by simp⟩, ?_⟩
          · exact ((o13.set_ne (by omega) _).set_ne (by omega) _).ext _
          · exact ((o23.set_ne (by omega) _).set_ne (by omega) _).ext _
          · exact ((o33.set_ne (by omega) _).set_ne (by omega) _).ext _
          · exact (OwnR.set_ne oa3.set_self (Ne.symm hne)).ext _
          · exact (OwnR.set_self (ob3.set_ne hne)).ext _
          · simp [intOf]; omega
      · have ej : j = s.need.length := by omega
        have hjt' : ¬ ((j : Int) < (T.getD t []).length) := by omega
        simp (config := {implicitDefEqProofs := false, maxDischargeDepth := 20}) (disch := first | omega | (simp only [lenE]; done) | (simp only [lenE]; omega) | rfl | (simp only [lenE, markR_len]; done) | (simp only [lenE, markR_len]; omega)) only [runE, mapE, listE, initT_5, initT_6, initT_7, initT_8, resV, oneV, binA, unA, reduceCtorEq, Nat.reduceEqDiff, Nat.reduceAdd, Nat.reduceLT, Nat.reduceLeDiff, Nat.reduceMul, Nat.reduceSub, ↓reduceIte, decide_true, decide_false, Bool.true_eq_false, Bool.false_eq_true, Bool.not_true, Bool.not_false, if_true, if_false, and_true, true_and, memE, celE, w64, Nat.zero_add, Nat.add_zero, Nat.mul_one, putL, and_self, ldn, tm, t2, t4, t6, t7, t14, t15, t16, t28, t29, t30, hjt']
        subst ej
        refine ⟨⟨t + 1, M, A, N, by omega, rfl, hX, o1, o2, o3, oa, ob, hL.row (by omega) hrow, by simp⟩, ?_⟩
        simp [intOf]; omega
    · have hrow' : (((T.getD t []).length : Int) != (s.arr.length : Int)) = true := by rw [bne_iff_ne]; omega
      have st2 := o2.st (off := 0) (vs := [.int .i64 0, .slice none 0 0, .slice none 0 0, .int .i64 0, .int .i64 0]) (by simp) rfl
      have se2 := o2.set_self 26 [.int .i64 0, .slice none 0 0, .slice none 0 0, .int .i64 0, .int .i64 0]
      simp (config := {implicitDefEqProofs := false, maxDischargeDepth := 20}) (disch := first | omega | (simp only [lenE]; done) | (simp only [lenE]; omega) | rfl | (simp only [lenE, markR_len]; done) | (simp only [lenE, markR_len]; omega)) only [runE, mapE, listE, initT_5, initT_6, initT_7, initT_8, resV, oneV, binA, unA, reduceCtorEq, Nat.reduceEqDiff, Nat.reduceAdd, Nat.reduceLT, Nat.reduceLeDiff, Nat.reduceMul, Nat.reduceSub, ↓reduceIte, decide_true, decide_false, Bool.true_eq_false, Bool.false_eq_true, Bool.not_true, Bool.not_false, if_true, if_false, and_true, true_and, memE, celE, w64, Nat.zero_add, Nat.add_zero, Nat.mul_one, putL, and_self, ldn, tm, t2, t4, t6, t14, t15, t16, hlt', hT.at_ t hlt, w1, wl, o1.rd, (hX.ints ha).len, hrow', bld0, stP_agg5', st2, se2.rd]
      refine ext_noLB (hX.put (by omega) _ _) ?_
      exact decide_eq_false (bad_len hlt hrow)
  · have e : t = T.length := by omega
    subst e
    have hlt' : ¬ (((T.length : Nat) : Int) < T.length) := by omega
    obtain ⟨d1, d2, d3⟩ := hL.done
    have st2 := o2.st (off := 0) (vs := [.int .i64 s.life, .slice (some ⟨ia, 0, none⟩) s.need.length fa, .slice (some ⟨ib, 0, none⟩) s.need.length fb, .int .i64 s.waste, .int .i64 s.lost]) (by simp) rfl
    have se2 := o2.set_self 26 [.int .i64 s.life, .slice (some ⟨ia, 0, none⟩) s.need.length fa, .slice (some ⟨ib, 0, none⟩) s.need.length fb, .int .i64 s.waste, .int .i64 s.lost]
    simp (config := {implicitDefEqProofs := false, maxDischargeDepth := 20}) (disch := first | omega | (simp only [lenE]; done) | (simp only [lenE]; omega) | rfl | (simp only [lenE, markR_len]; done) | (simp only [lenE, markR_len]; omega)) only [runE, mapE, listE, initT_5, initT_6, initT_7, initT_8, resV, oneV, binA, unA, reduceCtorEq, Nat.reduceEqDiff, Nat.reduceAdd, Nat.reduceLT, Nat.reduceLeDiff, Nat.reduceMul, Nat.reduceSub, ↓reduceIte, decide_true, decide_false, Bool.true_eq_false, Bool.false_eq_true, Bool.not_true, Bool.not_false, if_true, if_false, and_true, true_and, memE, celE, w64, Nat.zero_add, Nat.add_zero, Nat.mul_one, putL, and_self, ldn, tm, t2, t4, t6, t14, t15, t16, hlt', o3.rd, stP_agg5', st2, se2.rd]
    refine ext_yesLB (hX.put (by omega) _ _) (decide_eq_true d1) ⟨ia, ib, fa, fb, hne, by omega, by omega, ?_, ?_, ?_⟩
    · rw [← d2, ← d3, hL.la, hL.ln]
    · rw [← d2]; exact oa.at_ (by rw [List.getElem?_set_ne (by omega)])
    · rw [← d3]; exact ob.at_ (by rw [List.getElem?_set_ne (by omega)])
theorem leftOf_rc (m : Mem) (v vt : Value) (s : Sh) (T : List (List Int)) (h : ShA m v s) (hT : TabA m vt T) :
    RC Try.prog 45 [v, vt] m (AnsLB m s (two9 s T) (leftArr s T T.length) (leftNeed s T T.length)) := by
  refine rc_of_run mixed ok_impl_leftOf (by simp) (go_start _ _ _ ?_)
  obtain ⟨a, b, rfl, ha, hb⟩ := h.ro
  have hX := ((Ext.refl m).one 26 [.int .i64 s.life, a, b, .int .i64 s.waste, .int .i64 s.lost]).one 26 [.int .i64 0, .slice none 0 0, .slice none 0 0, .int .i64 0, .int .i64 0]
  have o1 : OwnB (roM m ++ [⟨.own, 26, [.int .i64 s.life, a, b, .int .i64 s.waste, .int .i64 s.lost]⟩] ++ [⟨.own, 26, [.int .i64 0, .slice none 0 0, .slice none 0 0, .int .i64 0, .int .i64 0]⟩]) m.length 26 [.int .i64 s.life, a, b, .int .i64 s.waste, .int .i64 s.lost] := (OwnB.here (by simp [roM_len])).ext _
  have o2 : OwnB (roM m ++ [⟨.own, 26, [.int .i64 s.life, a, b, .int .i64 s.waste, .int .i64 s.lost]⟩] ++ [⟨.own, 26, [.int .i64 0, .slice none 0 0, .slice none 0 0, .int .i64 0, .int .i64 0]⟩]) (m.length + 1) 26 [.int .i64 0, .slice none 0 0, .slice none 0 0, .int .i64 0, .int .i64 0] := OwnB.here (by simp [roM_len])
  simp (config := {implicitDefEqProofs := false, maxDischargeDepth := 20}) (disch := first | omega | (simp only [lenE]; done) | (simp only [lenE]; omega) | rfl | (simp only [lenE, markR_len]; done) | (simp only [lenE, markR_len]; omega)) only [runE, mapE, listE, initT_5, initT_6, initT_7, initT_8, resV, oneV, binA, unA, reduceCtorEq, Nat.reduceEqDiff, Nat.reduceAdd, Nat.reduceLT, Nat.reduceLeDiff, Nat.reduceMul, Nat.reduceSub, ↓reduceIte, decide_true, decide_false, Bool.true_eq_false, Bool.false_eq_true, Bool.not_true, Bool.not_false, if_true, if_false, and_true, true_and, memE, celE, w64, Nat.zero_add, Nat.add_zero, Nat.mul_one, putL, and_self, ldn, c_impl_leftOf, r_impl_leftOf]
  obtain ⟨M0, hM0⟩ : ∃ M0, M0 = roM m ++ [⟨.own, 26, [.int .i64 s.life, a, b, .int .i64 s.waste, .int .i64 s.lost]⟩] ++ [⟨.own, 26, [.int .i64 0, .slice none 0 0, .slice none 0 0, .int .i64 0, .int .i64 0]⟩] := ⟨_, rfl⟩
  rw [← hM0] at hX o1 o2 ⊢
  have hl0 := o2.lt
  refine callH_rc (implIsShelf_rc _ _ s (ShA.mk (hX.ints ha) (hX.ints hb))) ?_
  rintro r n1 ⟨rfl, nr1⟩
  replace hX := hX.app nr1
  replace o1 := o1.ext n1
  replace o2 := o2.ext n1
  obtain ⟨M1, hM1⟩ : ∃ M1, M1 = M0 ++ n1 := ⟨_, rfl⟩
  rw [← hM1] at hX o1 o2 ⊢
  have st2 := o2.st (off := 0) (vs := [.int .i64 0, .slice none 0 0, .slice none 0 0, .int .i64 0, .int .i64 0]) (by simp) rfl
  have se2 := o2.set_self 26 [.int .i64 0, .slice none 0 0, .slice none 0 0, .int .i64 0, .int .i64 0]
  cases hg : s.good with
  | false =>
    simp (config := {implicitDefEqProofs := false, maxDischargeDepth := 20}) (disch := first | omega | (simp only [lenE]; done) | (simp only [lenE]; omega) | rfl | (simp only [lenE, markR_len]; done) | (simp only [lenE, markR_len]; omega)) only [runE, mapE, listE, initT_5, initT_6, initT_7, initT_8, resV, oneV, binA, unA, reduceCtorEq, Nat.reduceEqDiff, Nat.reduceAdd, Nat.reduceLT, Nat.reduceLeDiff, Nat.reduceMul, Nat.reduceSub, ↓reduceIte, decide_true, decide_false, Bool.true_eq_false, Bool.false_eq_true, Bool.not_true, Bool.not_false, if_true, if_false, and_true, true_and, memE, celE, w64, Nat.zero_add, Nat.add_zero, Nat.mul_one, putL, and_self, ldn, bld0, stP_agg5', st2, se2.rd]
    refine ext_noLB (hX.put (by omega) _ _) ?_
    unfold two9; rw [hg]; rfl
  | true =>
  have gd := goodSh_iff.1 hg
  by_cases hl : T.length = s.need.length
  · have hl' : ((T.length : Int) != (s.need.length : Int)) = false := by rw [hl]; exact bne_self_eq_false _
    simp (config := {implicitDefEqProofs := false, maxDischargeDepth := 20}) (disch := first | omega | (simp only [lenE]; done) | (simp only [lenE]; omega) | rfl | (simp only [lenE, markR_len]; done) | (simp only [lenE, markR_len]; omega)) only [runE, mapE, listE, initT_5, initT_6, initT_7, initT_8, resV, oneV, binA, unA, reduceCtorEq, Nat.reduceEqDiff, Nat.reduceAdd, Nat.reduceLT, Nat.reduceLeDiff, Nat.reduceMul, Nat.reduceSub, ↓reduceIte, decide_true, decide_false, Bool.true_eq_false, Bool.false_eq_true, Bool.not_true, Bool.not_false, if_true, if_false, and_true, true_and, memE, celE, w64, Nat.zero_add, Nat.add_zero, Nat.mul_one, putL, and_self, ldn, hT.ro.len, o1.rd, (hX.ints hb).len, hl']
    refine callH_rc (leftBehind_rc _ _ vt s T (ShA.mk (hX.ints ha) (hX.ints hb)) (TabA.xt hT hX) gd (by omega)) ?_
    have e2 : two9 s T = decide (irows s T T.length) := by
      simp only [two9, Sh.issB, hg, Bool.true_and, hl, true_and]
    rintro r n2 ⟨nr2, ⟨hb1, rfl⟩ | ⟨hb1, w, rfl, ia, ib, fa, fb, hne, ga, gb, rfl, oa, ob⟩⟩
    · have st3 := (o2.ext n2).st (off := 0) (vs := [.int .i64 0, .slice none 0 0, .slice none 0 0, .int .i64 0, .int .i64 0]) (by simp) rfl
      have se3 := (o2.ext n2).set_self 26 [.int .i64 0, .slice none 0 0, .slice none 0 0, .int .i64 0, .int .i64 0]
      simp (config := {implicitDefEqProofs := false, maxDischargeDepth := 20}) (disch := first | omega | (simp only [lenE]; done) | (simp only [lenE]; omega) | rfl | (simp only [lenE, markR_len]; done) | (simp only [lenE, markR_len]; omega)) only [runE, mapE, listE, initT_5, initT_6, initT_7, initT_8, resV, oneV, binA, unA, reduceCtorEq, Nat.reduceEqDiff, Nat.reduceAdd, Nat.reduceLT, Nat.reduceLeDiff, Nat.reduceMul, Nat.reduceSub, ↓reduceIte, decide_true, decide_false, Bool.true_eq_false, Bool.false_eq_true, Bool.not_true, Bool.not_false, if_true, if_false, and_true, true_and, memE, celE, w64, Nat.zero_add, Nat.add_zero, Nat.mul_one, putL, and_self, ldn, ext_2_0, ext_2_1, noShV, stP_agg5', st3, se3.rd]
      exact ext_noLB ((hX.app nr2).put (by omega) _ _) (by rw [e2]; exact hb1)
    · have hl1 := hX.len
      have st3 := (o2.ext n2).st (off := 0) (vs := [.int .i64 s.life, .slice (some ⟨ia, 0, none⟩) (leftArr s T T.length).length fa, .slice (some ⟨ib, 0, none⟩) (leftNeed s T T.length).length fb, .int .i64 s.waste, .int .i64 s.lost]) (by simp) rfl
      have se3 := (o2.ext n2).set_self 26 [.int .i64 s.life, .slice (some ⟨ia, 0, none⟩) (leftArr s T T.length).length fa, .slice (some ⟨ib, 0, none⟩) (leftNeed s T T.length).length fb, .int .i64 s.waste, .int .i64 s.lost]
      have l2 := o2.lt
      simp (config := {implicitDefEqProofs := false, maxDischargeDepth := 20}) (disch := first | omega | (simp only [lenE]; done) | (simp only [lenE]; omega) | rfl | (simp only [lenE, markR_len]; done) | (simp only [lenE, markR_len]; omega)) only [runE, mapE, listE, initT_5, initT_6, initT_7, initT_8, resV, oneV, binA, unA, reduceCtorEq, Nat.reduceEqDiff, Nat.reduceAdd, Nat.reduceLT, Nat.reduceLeDiff, Nat.reduceMul, Nat.reduceSub, ↓reduceIte, decide_true, decide_false, Bool.true_eq_false, Bool.false_eq_true, Bool.not_true, Bool.not_false, if_true, if_false, and_true, true_and, memE, celE, w64, Nat.zero_add, Nat.add_zero, Nat.mul_one, putL, and_self, ldn, ext_2_0, ext_2_1, stP_agg5', st3, se3.rd]
      exact ext_yesLB ((hX.app nr2).put (by omega) _ _) (by rw [e2]; exact hb1) ⟨ia, ib, fa, fb, hne, by omega, by omega, rfl, oa.at_ (by rw [List.getElem?_set_ne (by omega)]), ob.at_ (by rw [List.getElem?_set_ne (by omega)])⟩
  · have hl' : ((T.length : Int) != (s.need.length : Int)) = true := by rw [bne_iff_ne]; omega
    simp (config := {implicitDefEqProofs := false, maxDischargeDepth := 20}) (disch := first | omega | (simp only [lenE]; done) | (simp only [lenE]; omega) | rfl | (simp only [lenE, markR_len]; done) | (simp only [lenE, markR_len]; omega)) only [runE, mapE, listE, initT_5, initT_6, initT_7, initT_8, resV, oneV, binA, unA, reduceCtorEq, Nat.reduceEqDiff, Nat.reduceAdd, Nat.reduceLT, Nat.reduceLeDiff, Nat.reduceMul, Nat.reduceSub, ↓reduceIte, decide_true, decide_false, Bool.true_eq_false, Bool.false_eq_true, Bool.not_true, Bool.not_false, if_true, if_false, and_true, true_and, memE, celE, w64, Nat.zero_add, Nat.add_zero, Nat.mul_one, putL, and_self, ldn, hT.ro.len, o1.rd, (hX.ints hb).len, hl', bld0, stP_agg5', st2, se2.rd]
    refine ext_noLB (hX.put (by omega) _ _) ?_
    simp [two9, Sh.issB, hl]
end Go.Proofs.Ytdgfbmilbhckiaa.Ab
end
section
namespace Go.Proofs.Ytdgfbmilbhckiaa.Ab
open Go Go.RowKit
set_option linter.unusedVariables false
set_option linter.unusedSimpArgs false
theorem rowsC_set9 {T : List (List Int)} {R F : Nat → Nat} {s : Nat} {r : List Int} (hs : s < T.length) (hl : r.length = (T.getD s []).length) : rowsC (T.set s r) R F = rowsC T R F := by
  apply List.ext_getElem?
  intro i
  by_cases hi : i < T.length
  · rw [rowsC_at hi, rowsC_at (by rw [List.length_set]; exact hi)]
    by_cases e : i = s
    · subst e
      rw [List.getD_eq_getElem?_getD, List.getElem?_set_self hi, Option.getD_some, hl]
    · rw [List.getD_eq_getElem?_getD, List.getElem?_set_ne (Ne.symm e), ← List.getD_eq_getElem?_getD]
  · rw [List.getElem?_eq_none (by rw [rowsC_len, List.length_set]; omega), List.getElem?_eq_none (by rw [rowsC_len]; omega)]
theorem tabX_put {T : List (List Int)} {lo hi : Nat} {M : Mem} {id : Nat} {R F : Nat → Nat} (h : TabX T lo hi M id R F) {s : Nat} {r : List Int} (hs : s < T.length) (hl : r.length = (T.getD s []).length) : TabX (T.set s r) lo hi (M.set (R s) (Ab.rowB r)) id R F := by
  have hne : R s ≠ id := fun e2 => by
    have c' : M[R s]? = some (Ab.rowB (T.getD s [])) := (h.2.2.2.1 s hs).2.2
    have d : M[id]? = some ⟨.own, 24, rowsC T R F⟩ := h.2.2.1
    rw [e2, d] at c'
    cases c'
  refine ⟨h.1, h.2.1, by rw [rowsC_set9 hs hl]; exact h.2.2.1.set_ne hne _, fun j hj => ?_, fun i j hi hj => h.2.2.2.2 i j (by simpa using hi) (by simpa using hj)⟩
  rw [List.length_set] at hj
  obtain ⟨a, b, c⟩ := h.2.2.2.1 j hj
  refine ⟨a, b, ?_⟩
  by_cases e : j = s
  · subst e
    rw [List.getD_eq_getElem?_getD, List.getElem?_set_self hj, Option.getD_some]
    exact c.set_self
  · rw [List.getD_eq_getElem?_getD, List.getElem?_set_ne (Ne.symm e), ← List.getD_eq_getElem?_getD]
    exact c.set_ne fun e2 => e (h.2.2.2.2 j s hj hs e2.symm)
theorem rowsC_snoc9 {T : List (List Int)} {r : List Int} {R F : Nat → Nat} {rid f : Nat} :
    rowsC (T ++ [r]) (fun j => if j < T.length then R j else rid) (fun j => if j < T.length then F j else f) = rowsC T R F ++ [.slice (some ⟨rid, 0, none⟩) r.length f] := by
  unfold rowsC
  rw [List.length_append, List.length_singleton, List.range_succ, List.map_append]
  congr 1
  · apply List.map_congr_left
    intro j hj
    have hj' := List.mem_range.1 hj
    simp [hj', List.getD_eq_getElem?_getD, List.getElem?_append_left hj']
  · simp [List.getD_eq_getElem?_getD]
theorem tabX_snoc {T : List (List Int)} {r : List Int} {lo hi hi' : Nat} {M M' : Mem} {id id' rid f : Nat} {R F : Nat → Nat} (h : TabX T lo hi M id R F) (hs : ∀ i, lo ≤ i → i < hi → i ≠ id → M'[i]? = M[i]?)
    (h1 : lo ≤ id') (h2 : id' < hi') (h3 : OwnB M' id' 24 (rowsC T R F ++ [.slice (some ⟨rid, 0, none⟩) r.length f])) (h4 : hi ≤ rid) (h5 : rid < hi') (h6 : OwnR M' rid r) (h7 : hi ≤ hi') :
    TabX (T ++ [r]) lo hi' M' id' (fun j => if j < T.length then R j else rid) (fun j => if j < T.length then F j else f) := by
  refine ⟨h1, h2, by rw [rowsC_snoc9]; exact h3, fun j hj => ?_, fun i j hi hj he => ?_⟩
  · by_cases e : j < T.length
    · obtain ⟨a, b, c⟩ := h.2.2.2.1 j e
      have hne : R j ≠ id := fun e2 => by
        have c' : M[R j]? = some (Ab.rowB (T.getD j [])) := c
        have d : M[id]? = some ⟨.own, 24, rowsC T R F⟩ := h.2.2.1
        rw [e2, d] at c'
        cases c'
      simp only [e, if_true]
      refine ⟨a, by omega, ?_⟩
      have e3 : (T ++ [r]).getD j [] = T.getD j [] := by simp [List.getD_eq_getElem?_getD, List.getElem?_append_left e]
      rw [e3]
      exact c.at_ (hs _ a b hne)
    · have e4 : j = T.length := by simp at hj; omega
      simp only [e, if_false]
      refine ⟨by have := h.1; have := h.2.1; omega, h5, ?_⟩
      have e3 : (T ++ [r]).getD j [] = r := by subst e4; simp [List.getD_eq_getElem?_getD]
      rw [e3]; exact h6
  · simp at hi hj he
    by_cases e1 : i < T.length <;> by_cases e2 : j < T.length
    · rw [if_pos e1, if_pos e2] at he
      exact h.2.2.2.2 i j e1 e2 he
    · rw [if_pos e1, if_neg e2] at he
      have := (h.2.2.2.1 i e1).2.1
      omega
    · rw [if_neg e1, if_pos e2] at he
      have := (h.2.2.2.1 j e2).2.1
      omega
    · omega
theorem tabX_nil {lo : Nat} {M : Mem} {id : Nat} (h : OwnB M id 24 []) (h1 : lo ≤ id) : TabX [] lo (id + 1) M id (fun _ => 0) (fun _ => 0) :=
  ⟨h1, by omega, h, fun j hj => absurd hj (by simp), fun i j hi => absurd hi (by simp)⟩
theorem tsz_bd9 {T : List (List Int)} {n : Nat} (h : ∀ j, j < T.length → (T.getD j []).length ≤ n) : tsz T T.length ≤ T.length * n := by
  have : ∀ k, k ≤ T.length → tsz T k ≤ k * n := by
    intro k
    induction k with
    | zero => intro _; simp [tsz]
    | succ k ih =>
      intro hk
      have h1 := ih (by omega)
      have h2 := h k (by omega)
      simp only [tsz]
      rw [Int.natCast_add, Int.add_mul]
      omega
  exact this _ (Nat.le_refl _)
end Go.Proofs.Ytdgfbmilbhckiaa.Ab
end
section
namespace Go.Proofs.Ytdgfbmilbhckiaa
set_option linter.unusedVariables false
def colO (newest : Bool) (t k : Nat) : Nat := if newest then t - k else k
theorem colO_le {newest : Bool} {t k : Nat} (h : k ≤ t) : colO newest t k ≤ t := by unfold colO; split <;> omega
theorem colO_inj {newest : Bool} {t j k : Nat} (hj : j < k) (hk : k ≤ t) : colO newest t j ≠ colO newest t k := by unfold colO; split <;> omega
structure Gs where
  A : List Int
  r : Int
  row : List Int
def takeG (life : Int) (t f : Nat) (g : Gs) : Int := if usB life f t then min (g.A.getD f 0) g.r else 0
def stepG (life : Int) (t f : Nat) (g : Gs) : Gs := ⟨g.A.set f (g.A.getD f 0 - takeG life t f g), g.r - takeG life t f g, g.row.set f (takeG life t f g)⟩
def rowG (life : Int) (newest : Bool) (t : Nat) (g : Gs) : Nat → Gs
  | 0 => g
  | k + 1 => stepG life t (colO newest t k) (rowG life newest t g k)
def allG (s : Sh) (newest : Bool) : Nat → List Int × List (List Int)
  | 0 => (s.arr, [])
  | t + 1 => ((rowG s.life newest t ⟨(allG s newest t).1, s.need.getD t 0, List.replicate s.need.length 0⟩ (t + 1)).A, (allG s newest t).2 ++ [(rowG s.life newest t ⟨(allG s newest t).1, s.need.getD t 0, List.replicate s.need.length 0⟩ (t + 1)).row])
def gAt (s : Sh) (newest : Bool) (t k : Nat) : Gs := rowG s.life newest t ⟨(allG s newest t).1, s.need.getD t 0, List.replicate s.need.length 0⟩ k
theorem gAt_s (s : Sh) (newest : Bool) (t k : Nat) : gAt s newest t (k + 1) = stepG s.life t (colO newest t k) (gAt s newest t k) := rfl
theorem allG_s (s : Sh) (newest : Bool) (t : Nat) : allG s newest (t + 1) = ((gAt s newest t (t + 1)).A, (allG s newest t).2 ++ [(gAt s newest t (t + 1)).row]) := rfl
theorem allG_len (s : Sh) (newest : Bool) (t : Nat) : (allG s newest t).2.length = t := by
  induction t with
  | zero => rfl
  | succ t ih => rw [allG_s]; simp [ih]
structure GsOk (n : Nat) (g : Gs) : Prop where
  la : g.A.length = n
  lr : g.row.length = n
  a : ∀ f, f < n → 0 ≤ g.A.getD f 0 ∧ g.A.getD f 0 ≤ 20
  r : 0 ≤ g.r ∧ g.r ≤ 20
  row : ∀ f, f < n → 0 ≤ g.row.getD f 0 ∧ g.row.getD f 0 ≤ 20
theorem takeG_bd {n : Nat} {g : Gs} (h : GsOk n g) {life : Int} {t f : Nat} (hf : f < n) : 0 ≤ takeG life t f g ∧ takeG life t f g ≤ g.A.getD f 0 ∧ takeG life t f g ≤ g.r := by
  have := h.a f hf
  have := h.r
  unfold takeG
  split <;> omega
theorem GsOk.step {n : Nat} {g : Gs} (h : GsOk n g) {life : Int} {t f : Nat} (hf : f < n) : GsOk n (stepG life t f g) := by
  have b := takeG_bd h (life := life) (t := t) hf
  have la := h.la
  have lr := h.lr
  have r := h.r
  refine ⟨by simp [stepG, la], by simp [stepG, lr], fun q hq => ?_, by simp only [stepG]; omega, fun q hq => ?_⟩
  · simp only [stepG]
    rw [setD9 (by omega)]
    have := h.a f hf
    have := h.a q hq
    split <;> omega
  · simp only [stepG]
    rw [setD9 (by omega)]
    have := h.a f hf
    have := h.row q hq
    split <;> omega
theorem rowG_ok {n : Nat} {g : Gs} (h : GsOk n g) {life : Int} {newest : Bool} {t : Nat} (ht : t < n) (k : Nat) (hk : k ≤ t + 1) : GsOk n (rowG life newest t g k) := by
  induction k with
  | zero => exact h
  | succ k ih =>
    have := colO_le (newest := newest) (t := t) (k := k) (by omega)
    exact (ih (by omega)).step (by omega)
theorem zeros_at (n f : Nat) : (List.replicate n (0 : Int)).getD f 0 = 0 := by
  rw [List.getD_eq_getElem?_getD, List.getElem?_replicate]
  split <;> rfl
theorem start_ok {s : Sh} (hg : GoodSh s) {A : List Int} (la : A.length = s.need.length) (ha : ∀ f, f < s.need.length → 0 ≤ A.getD f 0 ∧ A.getD f 0 ≤ 20) {t : Nat} (ht : t < s.need.length) : GsOk s.need.length ⟨A, s.need.getD t 0, List.replicate s.need.length 0⟩ := by
  refine ⟨la, by simp, ha, memD9 hg.need ht, fun f hf => ?_⟩
  show 0 ≤ (List.replicate s.need.length (0 : Int)).getD f 0 ∧ (List.replicate s.need.length (0 : Int)).getD f 0 ≤ 20
  rw [zeros_at]; omega
theorem allG_ok {s : Sh} (hg : GoodSh s) (newest : Bool) (t : Nat) (ht : t ≤ s.need.length) : (allG s newest t).1.length = s.need.length ∧ (∀ f, f < s.need.length → 0 ≤ (allG s newest t).1.getD f 0 ∧ (allG s newest t).1.getD f 0 ≤ 20) ∧ (∀ j, j < t → ((allG s newest t).2.getD j []).length = s.need.length) := by
  induction t with
  | zero => exact ⟨hg.la, fun f hf => memD9 hg.arr (by rw [hg.la]; exact hf), fun j hj => absurd hj (by omega)⟩
  | succ t ih =>
    obtain ⟨h1, h2, h3⟩ := ih (by omega)
    have ok := rowG_ok (start_ok hg h1 h2 (t := t) (by omega)) (life := s.life) (newest := newest) (t := t) (by omega) (t + 1) (Nat.le_refl _)
    refine ⟨ok.la, ok.a, fun j hj => ?_⟩
    rw [allG_s]
    by_cases e : j < t
    · rw [List.getD_eq_getElem?_getD, List.getElem?_append_left (by rw [allG_len]; exact e), ← List.getD_eq_getElem?_getD]
      exact h3 j e
    · rw [List.getD_eq_getElem?_getD, List.getElem?_append_right (by rw [allG_len]; omega), allG_len, show j - t = 0 by omega]
      exact ok.lr
theorem gAt_ok {s : Sh} (hg : GoodSh s) (newest : Bool) {t k : Nat} (ht : t < s.need.length) (hk : k ≤ t + 1) : GsOk s.need.length (gAt s newest t k) := by
  obtain ⟨h1, h2, h3⟩ := allG_ok hg newest t (by omega)
  exact rowG_ok (start_ok hg h1 h2 (t := t) ht) ht k hk
theorem gAt_row {s : Sh} (hg : GoodSh s) {newest : Bool} {t : Nat} (ht : t < s.need.length) {q : Nat} (k : Nat) (hk : k ≤ t + 1) (hq : ∀ j, j < k → colO newest t j ≠ q) : (gAt s newest t k).row.getD q 0 = 0 := by
  induction k with
  | zero => exact zeros_at _ _
  | succ k ih =>
    rw [gAt_s]
    have ok := gAt_ok hg newest ht (k := k) (by omega)
    have := colO_le (newest := newest) (t := t) (k := k) (by omega)
    simp only [stepG]
    rw [setD9 (by rw [ok.lr]; omega), if_neg (Ne.symm (hq k (by omega)))]
    exact ih (by omega) fun j hj => hq j (by omega)
theorem gAt_free {s : Sh} (hg : GoodSh s) {newest : Bool} {t k : Nat} (ht : t < s.need.length) (hk : k ≤ t) : (gAt s newest t k).row.getD (colO newest t k) 0 = 0 :=
  gAt_row hg ht k (by omega) fun j hj => colO_inj hj hk
theorem set_same9 {l : List Int} {i : Nat} {x : Int} (h : l.getD i 0 = x) (hi : i < l.length) : l.set i x = l := by
  subst h
  rw [List.getD_eq_getElem?_getD, List.getElem?_eq_getElem hi, Option.getD_some]
  exact List.set_getElem_self hi
theorem gAt_skip {s : Sh} (hg : GoodSh s) {newest : Bool} {t k : Nat} (ht : t < s.need.length) (hk : k ≤ t) (hu : usB s.life (colO newest t k) t = false) : gAt s newest t (k + 1) = gAt s newest t k := by
  have ok := gAt_ok hg newest ht (k := k) (by omega)
  have hc := colO_le (newest := newest) (t := t) (k := k) hk
  have e : takeG s.life t (colO newest t k) (gAt s newest t k) = 0 := by unfold takeG; rw [hu]; rfl
  rw [gAt_s]
  unfold stepG
  rw [e, Int.sub_zero, Int.sub_zero, set_same9 rfl (by rw [ok.la]; omega), set_same9 (gAt_free hg ht hk) (by rw [ok.lr]; omega)]
end Go.Proofs.Ytdgfbmilbhckiaa
end
section
namespace Go.Proofs.Ytdgfbmilbhckiaa.Ab
open Go Go.RowKit
set_option linter.unusedVariables false
set_option linter.unusedSimpArgs false
theorem least9_rc (m : Mem) (a b : Int) : RC Try.prog 73 [.int .i64 a, .int .i64 b] m fun r new => r = .int .i64 (min a b) ∧ new = [] := by
  refine rc_of_run mixed ok_spec_l1Least (by simp) (go_start _ _ _ ?_)
  by_cases h : a < b
  · simp (config := {implicitDefEqProofs := false, maxDischargeDepth := 20}) (disch := first | omega | (simp only [lenE]; done) | (simp only [lenE]; omega) | rfl | (simp only [lenE, markR_len]; done) | (simp only [lenE, markR_len]; omega)) only [runE, mapE, listE, initT_5, initT_6, initT_7, initT_8, resV, oneV, binA, unA, reduceCtorEq, Nat.reduceEqDiff, Nat.reduceAdd, Nat.reduceLT, Nat.reduceLeDiff, Nat.reduceMul, Nat.reduceSub, ↓reduceIte, decide_true, decide_false, Bool.true_eq_false, Bool.false_eq_true, Bool.not_true, Bool.not_false, if_true, if_false, and_true, true_and, memE, celE, w64, Nat.zero_add, Nat.add_zero, Nat.mul_one, putL, and_self, ldn, c_spec_l1Least, r_spec_l1Least, h]
    exact newQ_nil ⟨by congr 1; omega, rfl⟩
  · simp (config := {implicitDefEqProofs := false, maxDischargeDepth := 20}) (disch := first | omega | (simp only [lenE]; done) | (simp only [lenE]; omega) | rfl | (simp only [lenE, markR_len]; done) | (simp only [lenE, markR_len]; omega)) only [runE, mapE, listE, initT_5, initT_6, initT_7, initT_8, resV, oneV, binA, unA, reduceCtorEq, Nat.reduceEqDiff, Nat.reduceAdd, Nat.reduceLT, Nat.reduceLeDiff, Nat.reduceMul, Nat.reduceSub, ↓reduceIte, decide_true, decide_false, Bool.true_eq_false, Bool.false_eq_true, Bool.not_true, Bool.not_false, if_true, if_false, and_true, true_and, memE, celE, w64, Nat.zero_add, Nat.add_zero, Nat.mul_one, putL, and_self, ldn, c_spec_l1Least, r_spec_l1Least, h]
    exact newQ_nil ⟨by congr 1; omega, rfl⟩
end Go.Proofs.Ytdgfbmilbhckiaa.Ab
end
section
namespace Go.Proofs.Ytdgfbmilbhckiaa.Ab
open Go Go.RowKit
set_option linter.unusedVariables false
set_option linter.unusedSimpArgs false
set_option maxRecDepth 10000
def AnsX (m : Mem) (T : List (List Int)) (r : Value) (new : Mem) : Prop :=
  NoRo new ∧ ∃ (id lo : Nat) (R F : Nat → Nat), r = .slice (some ⟨id, 0, none⟩) T.length 1 ∧ m.length ≤ lo ∧ TabX T lo (m ++ new).length (m ++ new) id R F ∧ ∀ j, j < T.length → F j = 1
theorem l9MakeX_rc (m : Mem) (v : Value) (s : Sh) (nw : Bool) (h : ShA m v s) (hg : GoodSh s) :
    RC Try.prog 56 [v, .bool nw] m (AnsX m (allG s nw s.need.length).2) := by
  refine rc_of_run mixed ok_spec_l9Make (by simp) (go_start _ _ _ ?_)
  obtain ⟨a, b, rfl, ha, hb⟩ := h.ro
  have hla := hg.la
  have n8 := hg.n8
  have l1 := hg.l1
  have l8 := hg.l8
  have hX := (Ext.refl m).one 26 [.int .i64 s.life, a, b, .int .i64 s.waste, .int .i64 s.lost]
  simp (config := {implicitDefEqProofs := false, maxDischargeDepth := 20}) (disch := first | omega | (simp only [lenE]; done) | (simp only [lenE]; omega) | rfl | (simp only [lenE, markR_len]; done) | (simp only [lenE, markR_len]; omega)) only [runE, mapE, listE, initT_5, initT_6, initT_7, initT_8, resV, oneV, binA, unA, reduceCtorEq, Nat.reduceEqDiff, Nat.reduceAdd, Nat.reduceLT, Nat.reduceLeDiff, Nat.reduceMul, Nat.reduceSub, ↓reduceIte, decide_true, decide_false, Bool.true_eq_false, Bool.false_eq_true, Bool.not_true, Bool.not_false, if_true, if_false, and_true, true_and, memE, celE, w64, Nat.zero_add, Nat.add_zero, Nat.mul_one, putL, and_self, ldn, c_spec_l9Make, r_spec_l9Make, hb.len]
  obtain ⟨M0, hM0⟩ : ∃ M0, M0 = roM m ++ [⟨.own, 26, [.int .i64 s.life, a, b, .int .i64 s.waste, .int .i64 s.lost]⟩] := ⟨_, rfl⟩
  have o1 : OwnB M0 m.length 26 [.int .i64 s.life, a, b, .int .i64 s.waste, .int .i64 s.lost] := by rw [hM0]; exact OwnB.here (by simp [roM_len])
  have hl0 : M0.length = m.length + 1 := by rw [hM0]; simp [roM_len]
  rw [← hM0] at hX ⊢
  refine callH_rc (l1Own_rc _ a s.arr (hX.ints ha) (by omega)) ?_
  intro r n1 hA
  obtain ⟨il, fl, rfl, gl, ol, -, nr1⟩ := hA.row
  replace hX := hX.app nr1
  replace o1 := o1.ext n1
  obtain ⟨M1, hM1⟩ : ∃ M1, M1 = M0 ++ n1 := ⟨_, rfl⟩
  rw [← hM1] at hX o1 ol ⊢
  have lol := ol.lt
  have hX0 := hX
  have hnil : TabX [] M1.length (M1 ++ [(⟨.own, 24, []⟩ : Blk)]).length (M1 ++ [⟨.own, 24, []⟩]) M1.length (fun _ => 0) (fun _ => 0) := by
    rw [List.length_append]
    exact tabX_nil (OwnB.here rfl) (Nat.le_refl _)
  simp (config := {implicitDefEqProofs := false, maxDischargeDepth := 20}) (disch := first | omega | (simp only [lenE]; done) | (simp only [lenE]; omega) | rfl | (simp only [lenE, markR_len]; done) | (simp only [lenE, markR_len]; omega)) only [runE, mapE, listE, initT_5, initT_6, initT_7, initT_8, resV, oneV, binA, unA, reduceCtorEq, Nat.reduceEqDiff, Nat.reduceAdd, Nat.reduceLT, Nat.reduceLeDiff, Nat.reduceMul, Nat.reduceSub, ↓reduceIte, decide_true, decide_false, Bool.true_eq_false, Bool.false_eq_true, Bool.not_true, Bool.not_false, if_true, if_false, and_true, true_and, memE, celE, w64, Nat.zero_add, Nat.add_zero, Nat.mul_one, putL, and_self, ldn, bsl_no]
  refine loop_inv mixed (fun s' => ∃ (t : Nat) (M : Mem) (id : Nat) (R F : Nat → Nat), t ≤ s.need.length ∧ s'.m = M ∧ Ext m M ∧ OwnB M m.length 26 [.int .i64 s.life, a, b, .int .i64 s.waste, .int .i64 s.lost] ∧ OwnR M il (allG s nw t).1 ∧ TabX (allG s nw t).2 M1.length M.length M id R F ∧ (∀ j, j < t → F j = 1) ∧
      s'.t 1 = .bool nw ∧ s'.t 2 = .pointer (some ⟨m.length, 0, none⟩) ∧ s'.t 5 = .int .i64 (s.need.length : Int) ∧ s'.t 6 = .slice (some ⟨il, 0, none⟩) s.arr.length fl ∧ s'.t 7 = .slice (some ⟨id, 0, none⟩) t 1 ∧ s'.t 8 = .int .i64 (t : Int)) (fun s' => s.need.length - (intOf (s'.t 8)).toNat)
    ⟨0, _, M1.length, _, _, by omega, rfl, hX.one _ _, o1.ext _, ol.ext _, hnil, fun j hj => absurd hj (by omega), rfl, rfl, rfl, rfl, rfl, rfl⟩ ?_
  rintro s' ⟨t, M, id, R, F, ht, tm, hX, o1, ol, hTX, hF1, t1, t2, t5, t6, t7, t8⟩
  by_cases hlt : t < s.need.length
  · have hlt' : (t : Int) < s.need.length := by omega
    have xb := hX.ints hb
    have zr : OwnR (M ++ [⟨.own, 3, List.replicate s.need.length (.int .i64 0)⟩]) M.length (List.replicate s.need.length 0) := OwnR.zeros rfl
    have xb' := (hX.one 3 (List.replicate s.need.length (.int .i64 0))).ints hb
    have ml : m.length < M.length := o1.lt
    have ill : il < M.length := ol.lt
    have tx := hTX.1
    have tx2 := hTX.2.1
    simp (config := {implicitDefEqProofs := false, maxDischargeDepth := 20}) (disch := first | omega | (simp only [lenE]; done) | (simp only [lenE]; omega) | rfl | (simp only [lenE, markR_len]; done) | (simp only [lenE, markR_len]; omega)) only [runE, mapE, listE, initT_5, initT_6, initT_7, initT_8, resV, oneV, binA, unA, reduceCtorEq, Nat.reduceEqDiff, Nat.reduceAdd, Nat.reduceLT, Nat.reduceLeDiff, Nat.reduceMul, Nat.reduceSub, ↓reduceIte, decide_true, decide_false, Bool.true_eq_false, Bool.false_eq_true, Bool.not_true, Bool.not_false, if_true, if_false, and_true, true_and, memE, celE, w64, Nat.zero_add, Nat.add_zero, Nat.mul_one, putL, and_self, ldn, tm, t1, t2, t5, t6, t7, t8, hlt', mksA_eq (byt := 8) (n := s.need.length) rfl (by omega), o1.rd, xb.at_ t hlt, xb'.ld t hlt]
    refine loop_inv mixed (fun s' => ∃ (k : Nat) (M' : Mem), k ≤ t + 1 ∧ s'.m = M' ∧ Ext m M' ∧ M'.length = M.length + 1 + (M'.length - M.length - 1) ∧ M.length < M'.length ∧ OwnB M' m.length 26 [.int .i64 s.life, a, b, .int .i64 s.waste, .int .i64 s.lost] ∧ OwnR M' il (gAt s nw t k).A ∧ OwnR M' M.length (gAt s nw t k).row ∧ TabX (allG s nw t).2 M1.length M.length M' id R F ∧
        s'.t 1 = .bool nw ∧ s'.t 2 = .pointer (some ⟨m.length, 0, none⟩) ∧ s'.t 5 = .int .i64 (s.need.length : Int) ∧ s'.t 6 = .slice (some ⟨il, 0, none⟩) s.arr.length fl ∧ s'.t 7 = .slice (some ⟨id, 0, none⟩) t 1 ∧ s'.t 8 = .int .i64 (t : Int) ∧ s'.t 9 = .slice (some ⟨M.length, 0, none⟩) s.need.length 1 ∧ s'.t 10 = .int .i64 (gAt s nw t k).r ∧ s'.t 11 = .int .i64 (k : Int)) (fun s' => t + 1 - (intOf (s'.t 11)).toNat)
      ⟨0, M ++ [⟨.own, 3, List.replicate s.need.length (.int .i64 0)⟩], by omega, rfl, hX.one _ _, by simp, by simp, o1.ext _, ol.ext _, zr, hTX.ext (Nat.le_refl _) _, (by first | exact t1 | simp only [put_t, put_t', put_m, putT_t, putT_t', putT_m, init_t, init_m, initT_0, initT_1, initT_2, initT_3, initT_4, initT_5, initT_6, initT_7, initT_8, Nat.reduceEqDiff, ↓reduceIte, t1]), (by first | exact t2 | simp only [put_t, put_t', put_m, putT_t, putT_t', putT_m, init_t, init_m, initT_0, initT_1, initT_2, initT_3, initT_4, initT_5, initT_6, initT_7, initT_8, Nat.reduceEqDiff, ↓reduceIte, t2]), (by first | exact t5 | simp only [put_t, put_t', put_m, putT_t, putT_t', putT_m, init_t, init_m, initT_0, initT_1, initT_2, initT_3, initT_4, initT_5, initT_6, initT_7, initT_8, Nat.reduceEqDiff, ↓reduceIte, t5]), (by first | exact t6 | simp only [put_t, put_t', put_m, putT_t, putT_t', putT_m, init_t, init_m, initT_0, initT_1, initT_2, initT_3, initT_4, initT_5, initT_6, initT_7, initT_8, Nat.reduceEqDiff, ↓reduceIte, t6]), (by first | exact t7 | simp only [put_t, put_t', put_m, putT_t, putT_t', putT_m, init_t, init_m, initT_0, initT_1, initT_2, initT_3, initT_4, initT_5, initT_6, initT_7, initT_8, Nat.reduceEqDiff, ↓reduceIte, t7]), (by first | exact t8 | simp only [put_t, put_t', put_m, putT_t, putT_t', putT_m, init_t, init_m, initT_0, initT_1, initT_2, initT_3, initT_4, initT_5, initT_6, initT_7, initT_8, Nat.reduceEqDiff, ↓reduceIte, t8]), rfl, rfl, rfl⟩ ?_
    clear tm t1 t2 t5 t6 t7 t8 xb' zr
    rintro s' ⟨k, M', hk, tm, hX', hML, hMl, o1', ol', or', hTX', t1, t2, t5, t6, t7, t8, t9, t10, t11⟩
    by_cases hkt : k ≤ t
    · have hkt' : (k : Int) ≤ t := by omega
      obtain ⟨f, hf⟩ : ∃ f, f = colO nw t k := ⟨_, rfl⟩
      have hft : f ≤ t := by rw [hf]; exact colO_le hkt
      have ok := gAt_ok hg nw hlt (k := k) (by omega)
      have okA := ok.la
      have okR := ok.lr
      have okr := ok.r
      have bA := ok.a f (by omega)
      cases nw with
      | true =>
        have ef : (t : Int) - k = (f : Int) := by rw [hf]; unfold colO; simp; omega
        simp (config := {implicitDefEqProofs := false, maxDischargeDepth := 20}) (disch := first | omega | (simp only [lenE]; done) | (simp only [lenE]; omega) | rfl | (simp only [lenE, markR_len]; done) | (simp only [lenE, markR_len]; omega)) only [runE, mapE, listE, initT_5, initT_6, initT_7, initT_8, resV, oneV, binA, unA, reduceCtorEq, Nat.reduceEqDiff, Nat.reduceAdd, Nat.reduceLT, Nat.reduceLeDiff, Nat.reduceMul, Nat.reduceSub, ↓reduceIte, decide_true, decide_false, Bool.true_eq_false, Bool.false_eq_true, Bool.not_true, Bool.not_false, if_true, if_false, and_true, true_and, memE, celE, w64, Nat.zero_add, Nat.add_zero, Nat.mul_one, putL, and_self, ldn, tm, t1, t2, t5, t6, t7, t8, t9, t10, t11, hkt', ef, o1'.rd]
        refine callH_rc (usable_rc M' _ s f t (ShA.mk (hX'.ints ha) (hX'.ints hb)) (by omega) ⟨by omega, l8⟩) ?_
        rintro r n2 ⟨rfl, nr2⟩
        cases hu : usB s.life f t with
        | false =>
          simp (config := {implicitDefEqProofs := false, maxDischargeDepth := 20}) (disch := first | omega | (simp only [lenE]; done) | (simp only [lenE]; omega) | rfl | (simp only [lenE, markR_len]; done) | (simp only [lenE, markR_len]; omega)) only [runE, mapE, listE, initT_5, initT_6, initT_7, initT_8, resV, oneV, binA, unA, reduceCtorEq, Nat.reduceEqDiff, Nat.reduceAdd, Nat.reduceLT, Nat.reduceLeDiff, Nat.reduceMul, Nat.reduceSub, ↓reduceIte, decide_true, decide_false, Bool.true_eq_false, Bool.false_eq_true, Bool.not_true, Bool.not_false, if_true, if_false, and_true, true_and, memE, celE, w64, Nat.zero_add, Nat.add_zero, Nat.mul_one, putL, and_self, ldn, tm, t1, t2, t5, t6, t7, t8, t9, t10, t11]
          have sk := gAt_skip hg (newest := true) hlt hkt (by rw [← hf]; exact hu)
          refine ⟨⟨k + 1, M' ++ n2, by omega, rfl, hX'.app nr2, by rw [List.length_append]; omega, by rw [List.length_append]; omega, o1'.ext _, by rw [sk]; exact ol'.ext _, by rw [sk]; exact or'.ext _, hTX'.ext (by omega) _, by rw [sk], by simp⟩, ?_⟩
          simp [intOf]; omega
        | true =>
          have hX2 := hX'.app nr2
          have o12 := o1'.ext n2
          have ol2 := ol'.ext n2
          have or2 := or'.ext n2
          have hTX2 := hTX'.ext (by omega) n2
          obtain ⟨M2, hM2⟩ : ∃ M2, M2 = M' ++ n2 := ⟨_, rfl⟩
          have M2l : M.length < M2.length := by rw [hM2, List.length_append]; omega
          have iA : iadA 1 (.slice (some ⟨il, 0, none⟩) s.arr.length fl) (.int .i64 (f : Int)) = some (.pointer (some ⟨il, f, none⟩)) := iad0 rfl (by omega)
          have iR : iadA 1 (.slice (some ⟨M.length, 0, none⟩) s.need.length 1) (.int .i64 (f : Int)) = some (.pointer (some ⟨M.length, f, none⟩)) := iad0 rfl (by omega)
          rw [← hM2] at hX2 o12 ol2 or2 hTX2
          have kA := ol2.rd' (i := f) (by omega)
          simp (config := {implicitDefEqProofs := false, maxDischargeDepth := 20}) (disch := first | omega | (simp only [lenE]; done) | (simp only [lenE]; omega) | rfl | (simp only [lenE, markR_len]; done) | (simp only [lenE, markR_len]; omega)) only [runE, mapE, listE, initT_5, initT_6, initT_7, initT_8, resV, oneV, binA, unA, reduceCtorEq, Nat.reduceEqDiff, Nat.reduceAdd, Nat.reduceLT, Nat.reduceLeDiff, Nat.reduceMul, Nat.reduceSub, ↓reduceIte, decide_true, decide_false, Bool.true_eq_false, Bool.false_eq_true, Bool.not_true, Bool.not_false, if_true, if_false, and_true, true_and, memE, celE, w64, Nat.zero_add, Nat.add_zero, Nat.mul_one, putL, and_self, ldn, tm, t1, t2, t5, t6, t7, t8, t9, t10, t11]
          rw [← hM2]
          simp (config := {implicitDefEqProofs := false, maxDischargeDepth := 20}) (disch := first | omega | (simp only [lenE]; done) | (simp only [lenE]; omega) | rfl | (simp only [lenE, markR_len]; done) | (simp only [lenE, markR_len]; omega)) only [runE, mapE, listE, initT_5, initT_6, initT_7, initT_8, resV, oneV, binA, unA, reduceCtorEq, Nat.reduceEqDiff, Nat.reduceAdd, Nat.reduceLT, Nat.reduceLeDiff, Nat.reduceMul, Nat.reduceSub, ↓reduceIte, decide_true, decide_false, Bool.true_eq_false, Bool.false_eq_true, Bool.not_true, Bool.not_false, if_true, if_false, and_true, true_and, memE, celE, w64, Nat.zero_add, Nat.add_zero, Nat.mul_one, putL, and_self, ldn, iA, kA]
          refine callH_rc (least9_rc _ _ _) ?_
          rintro r new ⟨rfl, rfl⟩
          rw [List.append_nil]
          obtain ⟨u, hu2⟩ : ∃ u, u = min (gAt s true t k).r ((gAt s true t k).A.getD f 0) := ⟨_, rfl⟩
          rw [← hu2]
          have etake : takeG s.life t f (gAt s true t k) = u := by unfold takeG; rw [hu, if_pos rfl, hu2]; omega
          have sR := or2.st (off := f) (x := u) (by omega)
          have or3 := or2.set_self (L' := (gAt s true t k).row.set f u)
          have ol3 : OwnR (M2.set M.length (Ab.rowB ((gAt s true t k).row.set f u))) il (gAt s true t k).A := ol2.set_ne (by omega)
          have kR : rdc (M2.set M.length (Ab.rowB ((gAt s true t k).row.set f u))) M.length f = some (.int .i64 u) := by
            have := or3.rd' (i := f) (by rw [List.length_set]; omega)
            rw [this, setD9 (by omega), if_pos rfl]
          have kA3 := ol3.rd' (i := f) (by omega)
          have sA := ol3.st (off := f) (x := (gAt s true t k).A.getD f 0 - u) (by omega)
          simp (config := {implicitDefEqProofs := false, maxDischargeDepth := 20}) (disch := first | omega | (simp only [lenE]; done) | (simp only [lenE]; omega) | rfl | (simp only [lenE, markR_len]; done) | (simp only [lenE, markR_len]; omega)) only [runE, mapE, listE, initT_5, initT_6, initT_7, initT_8, resV, oneV, binA, unA, reduceCtorEq, Nat.reduceEqDiff, Nat.reduceAdd, Nat.reduceLT, Nat.reduceLeDiff, Nat.reduceMul, Nat.reduceSub, ↓reduceIte, decide_true, decide_false, Bool.true_eq_false, Bool.false_eq_true, Bool.not_true, Bool.not_false, if_true, if_false, and_true, true_and, memE, celE, w64, Nat.zero_add, Nat.add_zero, Nat.mul_one, putL, and_self, ldn, t1, t2, t5, t6, t7, t8, t9, t10, t11, iR, iA, sR, kR, kA3, sA]
          have eg : gAt s true t (k + 1) = ⟨(gAt s true t k).A.set f ((gAt s true t k).A.getD f 0 - u), (gAt s true t k).r - u, (gAt s true t k).row.set f u⟩ := by
            rw [gAt_s, ← hf, stepG, etake]
          refine ⟨⟨k + 1, _, by omega, rfl, (hX2.put (by omega) _ _).put (by omega) _ _, by simp only [List.length_set]; omega, by simp only [List.length_set]; omega, (o12.set_ne (by omega) _).set_ne (by omega) _, ?_, ?_, ?_, by rw [eg], by simp⟩, ?_⟩
          · rw [eg]
            exact OwnR.set_self (L' := (gAt s true t k).A.set f ((gAt s true t k).A.getD f 0 - u)) ol3
          · rw [eg]
            exact OwnR.set_ne or3 (by omega)
          · exact hTX2.at_ fun i h1 h2 => by rw [List.getElem?_set_ne (by omega), List.getElem?_set_ne (by omega)]
          · simp [intOf]; omega
      | false =>
        obtain rfl : f = k := by rw [hf]; unfold colO; simp
        simp (config := {implicitDefEqProofs := false, maxDischargeDepth := 20}) (disch := first | omega | (simp only [lenE]; done) | (simp only [lenE]; omega) | rfl | (simp only [lenE, markR_len]; done) | (simp only [lenE, markR_len]; omega)) only [runE, mapE, listE, initT_5, initT_6, initT_7, initT_8, resV, oneV, binA, unA, reduceCtorEq, Nat.reduceEqDiff, Nat.reduceAdd, Nat.reduceLT, Nat.reduceLeDiff, Nat.reduceMul, Nat.reduceSub, ↓reduceIte, decide_true, decide_false, Bool.true_eq_false, Bool.false_eq_true, Bool.not_true, Bool.not_false, if_true, if_false, and_true, true_and, memE, celE, w64, Nat.zero_add, Nat.add_zero, Nat.mul_one, putL, and_self, ldn, tm, t1, t2, t5, t6, t7, t8, t9, t10, t11, hkt', o1'.rd]
        refine callH_rc (usable_rc M' _ s f t (ShA.mk (hX'.ints ha) (hX'.ints hb)) (by omega) ⟨by omega, l8⟩) ?_
        rintro r n2 ⟨rfl, nr2⟩
        cases hu : usB s.life f t with
        | false =>
          simp (config := {implicitDefEqProofs := false, maxDischargeDepth := 20}) (disch := first | omega | (simp only [lenE]; done) | (simp only [lenE]; omega) | rfl | (simp only [lenE, markR_len]; done) | (simp only [lenE, markR_len]; omega)) only [runE, mapE, listE, initT_5, initT_6, initT_7, initT_8, resV, oneV, binA, unA, reduceCtorEq, Nat.reduceEqDiff, Nat.reduceAdd, Nat.reduceLT, Nat.reduceLeDiff, Nat.reduceMul, Nat.reduceSub, ↓reduceIte, decide_true, decide_false, Bool.true_eq_false, Bool.false_eq_true, Bool.not_true, Bool.not_false, if_true, if_false, and_true, true_and, memE, celE, w64, Nat.zero_add, Nat.add_zero, Nat.mul_one, putL, and_self, ldn, tm, t1, t2, t5, t6, t7, t8, t9, t10, t11]
          have sk := gAt_skip hg (newest := false) hlt hkt (by rw [← hf]; exact hu)
          refine ⟨⟨f + 1, M' ++ n2, by omega, rfl, hX'.app nr2, by rw [List.length_append]; omega, by rw [List.length_append]; omega, o1'.ext _, by rw [sk]; exact ol'.ext _, by rw [sk]; exact or'.ext _, hTX'.ext (by omega) _, by rw [sk], by simp⟩, ?_⟩
          simp [intOf]; omega
        | true =>
          have hX2 := hX'.app nr2
          have o12 := o1'.ext n2
          have ol2 := ol'.ext n2
          have or2 := or'.ext n2
          have hTX2 := hTX'.ext (by omega) n2
          obtain ⟨M2, hM2⟩ : ∃ M2, M2 = M' ++ n2 := ⟨_, rfl⟩
          have M2l : M.length < M2.length := by rw [hM2, List.length_append]; omega
          have iA : iadA 1 (.slice (some ⟨il, 0, none⟩) s.arr.length fl) (.int .i64 (f : Int)) = some (.pointer (some ⟨il, f, none⟩)) := iad0 rfl (by omega)
          have iR : iadA 1 (.slice (some ⟨M.length, 0, none⟩) s.need.length 1) (.int .i64 (f : Int)) = some (.pointer (some ⟨M.length, f, none⟩)) := iad0 rfl (by omega)
          rw [← hM2] at hX2 o12 ol2 or2 hTX2
          have kA := ol2.rd' (i := f) (by omega)
          simp (config := {implicitDefEqProofs := false, maxDischargeDepth := 20}) (disch := first | omega | (simp only [lenE]; done) | (simp only [lenE]; omega) | rfl | (simp only [lenE, markR_len]; done) | (simp only [lenE, markR_len]; omega)) only [runE, mapE, listE, initT_5, initT_6, initT_7, initT_8, resV, oneV, binA, unA, reduceCtorEq, Nat.reduceEqDiff, Nat.reduceAdd, Nat.reduceLT, Nat.reduceLeDiff, Nat.reduceMul, Nat.reduceSub, ↓reduceIte, decide_true, decide_false, Bool.true_eq_false, Bool.false_eq_true, Bool.not_true, Bool.not_false, if_true, if_false, and_true, true_and, memE, celE, w64, Nat.zero_add, Nat.add_zero, Nat.mul_one, putL, and_self, ldn, tm, t1, t2, t5, t6, t7, t8, t9, t10, t11]
          rw [← hM2]
          simp (config := {implicitDefEqProofs := false, maxDischargeDepth := 20}) (disch := first | omega | (simp only [lenE]; done) | (simp only [lenE]; omega) | rfl | (simp only [lenE, markR_len]; done) | (simp only [lenE, markR_len]; omega)) only [runE, mapE, listE, initT_5, initT_6, initT_7, initT_8, resV, oneV, binA, unA, reduceCtorEq, Nat.reduceEqDiff, Nat.reduceAdd, Nat.reduceLT, Nat.reduceLeDiff, Nat.reduceMul, Nat.reduceSub, ↓reduceIte, decide_true, decide_false, Bool.true_eq_false, Bool.false_eq_true, Bool.not_true, Bool.not_false, if_true, if_false, and_true, true_and, memE, celE, w64, Nat.zero_add, Nat.add_zero, Nat.mul_one, putL, and_self, ldn, iA, kA]
          refine callH_rc (least9_rc _ _ _) ?_
          rintro r new ⟨rfl, rfl⟩
          rw [List.append_nil]
          obtain ⟨u, hu2⟩ : ∃ u, u = min (gAt s false t f).r ((gAt s false t f).A.getD f 0) := ⟨_, rfl⟩
          rw [← hu2]
          have etake : takeG s.life t f (gAt s false t f) = u := by unfold takeG; rw [hu, if_pos rfl, hu2]; omega
          have sR := or2.st (off := f) (x := u) (by omega)
          have or3 := or2.set_self (L' := (gAt s false t f).row.set f u)
          have ol3 : OwnR (M2.set M.length (Ab.rowB ((gAt s false t f).row.set f u))) il (gAt s false t f).A := ol2.set_ne (by omega)
          have kR : rdc (M2.set M.length (Ab.rowB ((gAt s false t f).row.set f u))) M.length f = some (.int .i64 u) := by
            have := or3.rd' (i := f) (by rw [List.length_set]; omega)
            rw [this, setD9 (by omega), if_pos rfl]
          have kA3 := ol3.rd' (i := f) (by omega)
          have sA := ol3.st (off := f) (x := (gAt s false t f).A.getD f 0 - u) (by omega)
          simp (config := {implicitDefEqProofs := false, maxDischargeDepth := 20}) (disch := first | omega | (simp only [lenE]; done) | (simp only [lenE]; omega) | rfl | (simp only [lenE, markR_len]; done) | (simp only [lenE, markR_len]; omega)) only [runE, mapE, listE, initT_5, initT_6, initT_7, initT_8, resV, oneV, binA, unA, reduceCtorEq, Nat.reduceEqDiff, Nat.reduceAdd, Nat.reduceLT, Nat.reduceLeDiff, Nat.reduceMul, Nat.reduceSub, ↓reduceIte, decide_true, decide_false, Bool.true_eq_false, Bool.false_eq_true, Bool.not_true, Bool.not_false, if_true, if_false, and_true, true_and, memE, celE, w64, Nat.zero_add, Nat.add_zero, Nat.mul_one, putL, and_self, ldn, t1, t2, t5, t6, t7, t8, t9, t10, t11, iR, iA, sR, kR, kA3, sA]
          have eg : gAt s false t (f + 1) = ⟨(gAt s false t f).A.set f ((gAt s false t f).A.getD f 0 - u), (gAt s false t f).r - u, (gAt s false t f).row.set f u⟩ := by
            rw [gAt_s, ← hf, stepG, etake]
          refine ⟨⟨f + 1, _, by omega, rfl, (hX2.put (by omega) _ _).put (by omega) _ _, by simp only [List.length_set]; omega, by simp only [List.length_set]; omega, (o12.set_ne (by omega) _).set_ne (by omega) _, ?_, ?_, ?_, by rw [eg], by simp⟩, ?_⟩
          · rw [eg]
            exact OwnR.set_self (L' := (gAt s false t f).A.set f ((gAt s false t f).A.getD f 0 - u)) ol3
          · rw [eg]
            exact OwnR.set_ne or3 (by omega)
          · exact hTX2.at_ fun i h1 h2 => by rw [List.getElem?_set_ne (by omega), List.getElem?_set_ne (by omega)]
          · simp [intOf]; omega
    · have hkt' : ¬ ((k : Int) ≤ t) := by omega
      have e : k = t + 1 := by omega
      subst e
      have ok := gAt_ok hg nw hlt (k := t + 1) (Nat.le_refl _)
      have okR := ok.lr
      have happ := app_back (e := 24) (sz := 1) (byt := 24) (n := t) (id2 := M'.length) (ys := [.slice (some ⟨M.length, 0, none⟩) s.need.length 1]) hTX'.2.2.1 rfl (by rw [rowsC_len, allG_len]; omega) rfl (by rfl) (by omega) (by omega)
      simp (config := {implicitDefEqProofs := false, maxDischargeDepth := 20}) (disch := first | omega | (simp only [lenE]; done) | (simp only [lenE]; omega) | rfl | (simp only [lenE, markR_len]; done) | (simp only [lenE, markR_len]; omega)) only [runE, mapE, listE, initT_5, initT_6, initT_7, initT_8, resV, oneV, binA, unA, reduceCtorEq, Nat.reduceEqDiff, Nat.reduceAdd, Nat.reduceLT, Nat.reduceLeDiff, Nat.reduceMul, Nat.reduceSub, ↓reduceIte, decide_true, decide_false, Bool.true_eq_false, Bool.false_eq_true, Bool.not_true, Bool.not_false, if_true, if_false, and_true, true_and, memE, celE, w64, Nat.zero_add, Nat.add_zero, Nat.mul_one, putL, and_self, ldn, tm, t1, t2, t5, t6, t7, t8, t9, t10, t11, hkt', bsl_sl', happ]
      have hidl := hTX'.2.2.1.lt
      have lr := or'.lt
      have lo := ol'.lt
      have hFs : ∀ j, j < t + 1 → (if j < (allG s nw t).2.length then F j else 1) = 1 := fun j hj => by
        rw [allG_len]
        split
        · exact hF1 j ‹_›
        · rfl
      refine ⟨⟨t + 1, _, M'.length + 1, fun j => if j < (allG s nw t).2.length then R j else M.length, fun j => if j < (allG s nw t).2.length then F j else 1, by omega, rfl, ((hX'.dead (by omega)).one _ _).one _ _, ?_, ?_, ?_, hFs, rfl, by simp⟩, ?_⟩
      · exact o1'.at_ (by rw [List.append_assoc, List.getElem?_append_left (by rw [List.length_set]; exact o1'.lt), List.getElem?_set_ne (by omega)])
      · rw [allG_s]
        exact ol'.at_ (by rw [List.append_assoc, List.getElem?_append_left (by rw [List.length_set]; exact lo), List.getElem?_set_ne (by omega)])
      · rw [allG_s]
        refine tabX_snoc (rid := M.length) (f := 1) hTX' (fun i h1 h2 h3 => ?_) (by omega) (by simp) ?_ (by omega) (by simp; omega) ?_ (by simp; omega)
        · rw [List.append_assoc, List.getElem?_append_left (by rw [List.length_set]; omega), List.getElem?_set_ne (by omega)]
        · rw [okR]
          exact OwnB.here (by simp)
        · exact or'.at_ (by rw [List.append_assoc, List.getElem?_append_left (by rw [List.length_set]; exact lr), List.getElem?_set_ne (by omega)])
      · simp [intOf]; omega
  · have hlt' : ¬ ((t : Int) < s.need.length) := by omega
    have e : t = s.need.length := by omega
    subst e
    simp (config := {implicitDefEqProofs := false, maxDischargeDepth := 20}) (disch := first | omega | (simp only [lenE]; done) | (simp only [lenE]; omega) | rfl | (simp only [lenE, markR_len]; done) | (simp only [lenE, markR_len]; omega)) only [runE, mapE, listE, initT_5, initT_6, initT_7, initT_8, resV, oneV, binA, unA, reduceCtorEq, Nat.reduceEqDiff, Nat.reduceAdd, Nat.reduceLT, Nat.reduceLeDiff, Nat.reduceMul, Nat.reduceSub, ↓reduceIte, decide_true, decide_false, Bool.true_eq_false, Bool.false_eq_true, Bool.not_true, Bool.not_false, if_true, if_false, and_true, true_and, memE, celE, w64, Nat.zero_add, Nat.add_zero, Nat.mul_one, putL, and_self, ldn, tm, t1, t2, t5, t6, t7, t8, hlt']
    obtain ⟨q1, q2, q3⟩ := allG_ok hg nw s.need.length (Nat.le_refl _)
    have ql := allG_len s nw s.need.length
    have hl1 := hX.len
    obtain ⟨n0, e0, h0⟩ := hX
    refine ⟨n0, e0, h0, h0, id, M1.length, R, F, by rw [ql], by have := hX0.len; omega, ?_, fun j hj => hF1 j (by rw [ql] at hj; exact hj)⟩
    have lM : (m ++ n0).length = M.length := by rw [e0]; simp [roM_len]
    rw [lM]
    refine hTX.at_ fun i h1 h2 => ?_
    rw [e0, List.getElem?_append_right (by have := hX0.len; omega), List.getElem?_append_right (by rw [roM_len]; have := hX0.len; omega), roM_len]
theorem allG_val {s : Sh} (hg : GoodSh s) (nw : Bool) (t : Nat) (ht : t ≤ s.need.length) : ∀ j f, j < t → f < s.need.length → 0 ≤ ((allG s nw t).2.getD j []).getD f 0 ∧ ((allG s nw t).2.getD j []).getD f 0 ≤ 20 := by
  induction t with
  | zero => intro j f hj; omega
  | succ t ih =>
    intro j f hj hf
    rw [allG_s]
    by_cases e : j < t
    · rw [List.getD_eq_getElem?_getD (l := _ ++ _), List.getElem?_append_left (by rw [allG_len]; exact e), ← List.getD_eq_getElem?_getD]
      exact ih (by omega) j f e hf
    · rw [List.getD_eq_getElem?_getD (l := _ ++ _), List.getElem?_append_right (by rw [allG_len]; omega), allG_len, show j - t = 0 by omega]
      exact (gAt_ok hg nw (t := t) (k := t + 1) (by omega) (Nat.le_refl _)).row f hf
structure IT (M0 M : Mem) (cb id a : Nat) (l : List Int) (T : List (List Int)) (n tid lo : Nat) (R : Nat → Nat) (b : Int) : Prop where
  hid : id < M0.length
  hcb : cb < M0.length
  cw : Cw id M0 M
  cur : CurA M cb l id a
  tab : TabX T lo M.length M tid R (fun _ => 1)
  ge : M0.length ≤ lo
  len : T.length = n
  row : ∀ j, j < n → (T.getD j []).length = n
  val : ∀ j f, j < n → f < n → -b ≤ (T.getD j []).getD f 0 ∧ (T.getD j []).getD f 0 ≤ b
section
variable {M0 M M2 : Mem} {cb id a a2 n tid lo : Nat} {l : List Int} {T : List (List Int)} {R : Nat → Nat} {b b' : Int}
theorem IT.draw (h : IT M0 M cb id a l T n tid lo R b) (w : Cw id M M2) (k : CurA M2 cb l id a2) : IT M0 M2 cb id a2 l T n tid lo R b :=
  ⟨h.hid, h.hcb, Cw.trans h.hid h.cw w, k, (h.tab.at_ (M' := M2) fun i h1 h2 => w.old i (by have := h.hid; have := h.ge; omega) h2).wider w.len, h.ge, h.len, h.row, h.val⟩
theorem IT.more (h : IT M0 M cb id a l T n tid lo R b) (hb : b ≤ b') : IT M0 M cb id a l T n tid lo R b' :=
  ⟨h.hid, h.hcb, h.cw, h.cur, h.tab, h.ge, h.len, h.row, fun j f hj hf => by have := h.val j f hj hf; omega⟩
theorem IT.rd (h : IT M0 M cb id a l T n tid lo R b) {j : Nat} (hj : j < n) : rdc M tid j = some (.slice (some ⟨R j, 0, none⟩) n 1) := by
  have := h.tab.2.2.1.rd j
  rw [this, rowsC_at (by rw [h.len]; exact hj), h.row j hj]
theorem IT.own (h : IT M0 M cb id a l T n tid lo R b) {j : Nat} (hj : j < n) : OwnR M (R j) (T.getD j []) := (h.tab.2.2.2.1 j (by rw [h.len]; exact hj)).2.2
theorem IT.rd2 (h : IT M0 M cb id a l T n tid lo R b) {j f : Nat} (hj : j < n) (hf : f < n) : rdc M (R j) f = some (.int .i64 ((T.getD j []).getD f 0)) := (h.own hj).rd' (by rw [h.row j hj]; exact hf)
theorem IT.put (h : IT M0 M cb id a l T n tid lo R b) {j f : Nat} (hj : j < n) (hf : f < n) (x : Int) (hb : b ≤ b') (hx : -b' ≤ x ∧ x ≤ b') : ∃ M2 T2, stA M (R j) f [.int .i64 x] = some M2 ∧ IT M0 M2 cb id a l T2 n tid lo R b' := by
  have hjT : j < T.length := by rw [h.len]; exact hj
  have q := (h.tab.2.2.2.1 j hjT).1
  have hge := h.ge
  have hid := h.hid
  have hcb := h.hcb
  have gd : ∀ i, (T.set j ((T.getD j []).set f x)).getD i [] = if i = j then (T.getD j []).set f x else T.getD i [] := fun i => by
    by_cases e : i = j
    · subst e
      rw [if_pos rfl, List.getD_eq_getElem?_getD, List.getElem?_set_self hjT]; rfl
    · rw [if_neg e, List.getD_eq_getElem?_getD, List.getElem?_set_ne (Ne.symm e), ← List.getD_eq_getElem?_getD]
  refine ⟨_, T.set j ((T.getD j []).set f x), (h.own hj).st (by rw [h.row j hj]; exact hf), hid, hcb, h.cw.put (by omega) (by simp), h.cur.put (by omega) (by omega) _, ?_, hge, by rw [List.length_set]; exact h.len, fun i hi => ?_, fun i g hi hg => ?_⟩
  · have := tabX_put h.tab hjT (r := (T.getD j []).set f x) (by rw [List.length_set])
    simpa using this
  · rw [gd]
    split
    · rw [List.length_set]; exact h.row j hj
    · exact h.row i hi
  · rw [gd]
    split
    · rw [setD9 (by rw [h.row j hj]; exact hf)]
      split
      · exact hx
      · have := h.val j g hj hg; omega
    · have := h.val i g hi hg; omega
end
def LivesT (lo : Nat) (M : Mem) (v : Value) (T : List (List Int)) : Prop := ∀ M3 : Mem, (∀ i, lo ≤ i → i < M.length → M3[i]? = M[i]?) → TabA M3 v T
theorem LivesT.here {lo : Nat} {M : Mem} {v : Value} {T : List (List Int)} (h : LivesT lo M v T) : TabA M v T := h M fun _ _ _ => rfl
theorem LivesT.cw {lo id : Nat} {M M' : Mem} {v : Value} {T : List (List Int)} (h : LivesT lo M v T) (hid : id < lo) (c : Cw id M M') : LivesT lo M' v T := fun M3 h3 =>
  h M3 fun i h1 h2 => (h3 i h1 (Nat.lt_of_lt_of_le h2 c.len)).trans (c.old i (by omega) h2)
theorem LivesT.up {lo : Nat} {M M' : Mem} {v : Value} {T : List (List Int)} (h : LivesT lo M v T) (hl : M.length ≤ M'.length) (he : ∀ i, lo ≤ i → i < M.length → M'[i]? = M[i]?) : LivesT lo M' v T := fun M3 h3 =>
  h M3 fun i h1 h2 => (h3 i h1 (by omega)).trans (he i h1 h2)
theorem tabX_lives {M : Mem} {T : List (List Int)} {lo lo' tid fl n : Nat} {R F : Nat → Nat} (h : TabX T lo M.length M tid R F) (hlo : lo' ≤ lo) (hl : T.length ≤ 8) (hr : ∀ j, j < T.length → (T.getD j []).length ≤ 9) (hn : n = T.length) : LivesT lo' M (.slice (some ⟨tid, 0, none⟩) n fl) T := fun M3 h3 => by
  subst hn
  have t3 : TabX T lo M.length M3 tid R F := h.at_ fun i h1 h2 => h3 i (by omega) h2
  have := tsz_bd9 (T := T) (n := 9) hr
  exact (t3.obj (fl := fl) (by omega) (by have : T.length * 9 ≤ 8 * 9 := Nat.mul_le_mul_right 9 hl; omega)).in
theorem IT.app {M0 M : Mem} {cb id a n tid lo : Nat} {l : List Int} {T : List (List Int)} {R : Nat → Nat} {b : Int} (h : IT M0 M cb id a l T n tid lo R b) (h0 : 0 < n) (h8 : n ≤ 8) (x : Int) : ∃ M1 M2 T2,
    appP (M ++ [⟨.own, 3, [.int .i64 x]⟩]) 3 1 8 (.slice (some ⟨R 0, 0, none⟩) n 1) (.slice (some ⟨M.length, 0, none⟩) 1 1) = some (.slice (some ⟨M.length + 1, 0, none⟩) (n + 1) 1, M1) ∧
    stA M1 tid 0 [.slice (some ⟨M.length + 1, 0, none⟩) (n + 1) 1] = some M2 ∧ LivesT M0.length M2 (.slice (some ⟨tid, 0, none⟩) n 1) T2 ∧ Cw id M0 M2 ∧ CurA M2 cb l id a := by
  have hlen := h.len
  have hr0 := h.row 0 h0
  obtain ⟨r, T', rfl⟩ : ∃ r T', T = r :: T' := by
    cases T with
    | nil => simp at hlen; omega
    | cons r T' => exact ⟨r, T', rfl⟩
  have hrn : r.length = n := by simpa using hr0
  have hge := h.ge
  have hid := h.hid
  have hcb := h.hcb
  have hcl := h.cw.len
  have tq := h.tab
  obtain ⟨g1, g2, g3⟩ := tq.2.2.2.1 0 (by simp)
  have g3' : OwnR M (R 0) r := by simpa using g3
  have gr : Gr M (.slice (some ⟨R 0, 0, none⟩) n 1) r (R 0) := .inr ⟨by rw [hrn], fun e => by rw [e] at hrn; simp at hrn; omega, g3'⟩
  obtain ⟨M1, a1, a2, a3, a4, a5⟩ := gr.app (by omega) x
  rw [hrn] at a1
  have ne : R 0 ≠ tid := fun e => by
    have c' : M[R 0]? = some (Ab.rowB r) := g3'
    have d : M[tid]? = some ⟨.own, 24, rowsC (r :: T') R (fun _ => 1)⟩ := tq.2.2.1
    rw [e, d] at c'
    cases c'
  have tl : tid < M.length := tq.2.1
  have b1 : OwnB M1 tid 24 (rowsC (r :: T') R (fun _ => 1)) := tq.2.2.1.at_ (a4 tid tl fun _ => Ne.symm ne)
  have same : ∀ i, i < M0.length → M1[i]? = M[i]? := fun i hi => a4 i (by omega) fun _ => by omega
  have cw1 : Cw id M0 M1 := ⟨by omega, fun i e hi => (same i hi).trans (h.cw.old i e hi), fun i bk hi hb => by
    by_cases e : i < M.length
    · by_cases e2 : i = R 0
      · exact a5 i bk (.inl ⟨e2, fun e => by rw [e] at hrn; simp at hrn; omega⟩) hb
      · rw [a4 i e fun _ => e2] at hb
        exact h.cw.new i bk hi hb
    · exact a5 i bk (.inr (by omega)) hb⟩
  have k1 : CurA M1 cb l id a := by
    obtain ⟨sd, hb⟩ := h.cur.box
    exact ⟨(same cb hcb).trans h.cur.code, h.cur.byte, h.cur.few, sd, (same id hid).trans hb⟩
  have ez : rowsC (r :: T') R (fun _ => 1) = .slice (some ⟨R 0, 0, none⟩) r.length 1 :: rowsC T' (fun j => R (j + 1)) (fun _ => 1) := by
    unfold rowsC
    rw [List.length_cons, List.range_succ_eq_map, List.map_cons, List.map_map]
    rfl
  have ez' : ∀ rid (r' : List Int), rowsC (r' :: T') (fun j => if j = 0 then rid else R j) (fun _ => 1) = .slice (some ⟨rid, 0, none⟩) r'.length 1 :: rowsC T' (fun j => R (j + 1)) (fun _ => 1) := fun rid r' => by
    unfold rowsC
    rw [List.length_cons, List.range_succ_eq_map, List.map_cons, List.map_map]
    rfl
  have st := b1.st (off := 0) (vs := [.slice (some ⟨M.length + 1, 0, none⟩) (n + 1) 1]) (by rw [ez]; simp) rfl
  refine ⟨M1, _, (r ++ [x]) :: T', a1, st, ?_, cw1.put (by have := tq.1; omega) (by simp), k1.put (by have := tq.1; omega) (by have := tq.1; omega) _⟩
  have TX : TabX ((r ++ [x]) :: T') lo (M1.set tid ⟨.own, 24, putL (rowsC (r :: T') R (fun _ => 1)) 0 [.slice (some ⟨M.length + 1, 0, none⟩) (n + 1) 1]⟩).length (M1.set tid ⟨.own, 24, putL (rowsC (r :: T') R (fun _ => 1)) 0 [.slice (some ⟨M.length + 1, 0, none⟩) (n + 1) 1]⟩) tid (fun j => if j = 0 then M.length + 1 else R j) (fun _ => 1) := by
    refine ⟨tq.1, by rw [List.length_set]; omega, ?_, fun j hj => ?_, fun i j hi hj he => ?_⟩
    · have : rowsC ((r ++ [x]) :: T') (fun j => if j = 0 then M.length + 1 else R j) (fun _ => 1) = putL (rowsC (r :: T') R (fun _ => 1)) 0 [.slice (some ⟨M.length + 1, 0, none⟩) (n + 1) 1] := by
        rw [ez', ez, List.length_append, hrn]
        rfl
      rw [this]
      exact b1.set_self _ _
    · rw [List.length_set]
      by_cases e : j = 0
      · subst e
        simp only [if_pos]
        exact ⟨by have := tq.1; omega, by omega, by simpa using a3.at_ (List.getElem?_set_ne (by omega))⟩
      · simp only [if_neg e]
        obtain ⟨c1, c2, c3⟩ := tq.2.2.2.1 j (by simpa using hj)
        have hne0 : R j ≠ R 0 := fun e2 => e (tq.2.2.2.2 j 0 (by simpa using hj) (by simp) e2)
        have hnt : R j ≠ tid := fun e2 => by
          have c' : M[R j]? = some (Ab.rowB ((r :: T').getD j [])) := c3
          have d : M[tid]? = some ⟨.own, 24, rowsC (r :: T') R (fun _ => 1)⟩ := tq.2.2.1
          rw [e2, d] at c'
          cases c'
        refine ⟨c1, by omega, ?_⟩
        have ej : ((r ++ [x]) :: T').getD j [] = (r :: T').getD j [] := by
          cases j with
          | zero => exact absurd rfl e
          | succ j => rfl
        rw [ej]
        exact c3.at_ (by rw [List.getElem?_set_ne (Ne.symm hnt)]; exact a4 (R j) c2 fun _ => hne0)
    · by_cases e1 : i = 0
      · by_cases e2 : j = 0
        · omega
        · simp only [if_pos e1, if_neg e2] at he
          have := (tq.2.2.2.1 j (by simpa using hj)).2.1
          omega
      · by_cases e2 : j = 0
        · simp only [if_neg e1, if_pos e2] at he
          have := (tq.2.2.2.1 i (by simpa using hi)).2.1
          omega
        · simp only [if_neg e1, if_neg e2] at he
          exact tq.2.2.2.2 i j (by simpa using hi) (by simpa using hj) he
  refine tabX_lives TX hge (by simp at hlen ⊢; omega) (fun j hj => ?_) (by simp at hlen ⊢; omega)
  cases j with
  | zero => simp; omega
  | succ j =>
    have := h.row (j + 1) (by simp at hj hlen; omega)
    simp at this ⊢
    omega

theorem rowsC_one {T : List (List Int)} {R F : Nat → Nat} (h : ∀ j, j < T.length → F j = 1) : rowsC T R F = rowsC T R (fun _ => 1) := by
  unfold rowsC
  exact List.map_congr_left fun j hj => by rw [h j (List.mem_range.1 hj)]
theorem one_lives {M M3 : Mem} {lo : Nat} (hlo : lo ≤ M.length) : LivesT lo (M ++ [⟨.own, 3, [.int .i64 0]⟩] ++ [⟨.own, 24, [.slice (some ⟨M.length, 0, none⟩) 1 1]⟩]) (.slice (some ⟨M.length + 1, 0, none⟩) 1 1) [[0]] := fun M3 h3 => by
  have q1 := h3 M.length hlo (by simp)
  have q2 := h3 (M.length + 1) (by omega) (by simp)
  rw [List.getElem?_append_left (by simp), List.getElem?_append_right (by simp)] at q1
  rw [List.getElem?_append_right (by simp)] at q2
  simp at q1 q2
  have o1 : OwnR M3 M.length [0] := q1
  have o2 : OwnB M3 (M.length + 1) 24 [.slice (some ⟨M.length, 0, none⟩) 1 1] := q2
  exact TabA.blk (T := [[0]]) (by simp) fun k hk => by
    have : k = 0 := by simp at hk; omega
    subst this
    exact ⟨_, by rw [o2.rd]; rfl, o1.ints (by simp) 1⟩
set_option maxHeartbeats 8000000 in
theorem issue_ac (M : Mem) (cb id a lo0 : Nat) (l : List Int) (v : Value) (s : Sh) (h : CurA M cb l id a) (ha : a ≤ 999000000) (lv : LivesSh lo0 M v s) (hlo : id < lo0) :
    AC Try.prog 68 [.pointer (some ⟨id, 0, none⟩), v] M fun r M' => ∃ T : List (List Int), LivesT M.length M' r T ∧ Cw id M M' ∧ ∃ a', a' ≤ a + 1000 ∧ CurA M' cb l id a' := by
  refine ac_of_run mixed ok_spec_l1Cur__issue (by simp) (go_start _ _ _ ?_)
  have hid := h.lt
  have hcb := h.cblt
  obtain ⟨u, w, rfl, -, -⟩ := lv.here
  have sh := fun (P : Mem) (c : Cw id M P) => (lv.cw hlo c).here
  obtain ⟨E, hE⟩ : ∃ E, E = M ++ [⟨.own, 26, [.int .i64 s.life, u, w, .int .i64 s.waste, .int .i64 s.lost]⟩] := ⟨_, rfl⟩
  have bE : OwnB E M.length 26 [.int .i64 s.life, u, w, .int .i64 s.waste, .int .i64 s.lost] := by rw [hE]; exact OwnB.here rfl
  have wE : Cw id M E := by rw [hE]; exact (Cw.refl id M).ext (noRo_own noRo_nil)
  have kE : CurA E cb l id a := by rw [hE]; exact h.ext _
  have bE2 := bE
  rw [hE] at bE2
  simp (config := {implicitDefEqProofs := false, maxDischargeDepth := 20}) (disch := first | omega | (simp only [lenE]; done) | (simp only [lenE]; omega) | rfl | (simp only [lenE, markR_len]; done) | (simp only [lenE, markR_len]; omega)) only [runE, mapE, listE, initT_5, initT_6, initT_7, initT_8, resV, oneV, binA, unA, reduceCtorEq, Nat.reduceEqDiff, Nat.reduceAdd, Nat.reduceLT, Nat.reduceLeDiff, Nat.reduceMul, Nat.reduceSub, ↓reduceIte, decide_true, decide_false, Bool.true_eq_false, Bool.false_eq_true, Bool.not_true, Bool.not_false, if_true, if_false, and_true, true_and, memE, celE, w64, Nat.zero_add, Nat.add_zero, Nat.mul_one, putL, and_self, ldn, c_spec_l1Cur__issue, r_spec_l1Cur__issue, bE2.rd]
  rw [← hE]
  clear bE2 hE
  refine callH_rc (l9Good_rc E _ s (sh E wE)) ?_
  rintro r n1 ⟨rfl, nr1⟩
  have wE1 := wE.ext nr1
  have kE1 := kE.ext n1
  have bE1 := bE.ext n1
  obtain ⟨E1, hE1⟩ : ∃ E1, E1 = E ++ n1 := ⟨_, rfl⟩
  rw [← hE1] at wE1 kE1 bE1 ⊢
  clear hE1 nr1 bE kE wE
  cases hg : s.good with
  | false =>
    simp (config := {implicitDefEqProofs := false, maxDischargeDepth := 20}) (disch := first | omega | (simp only [lenE]; done) | (simp only [lenE]; omega) | rfl | (simp only [lenE, markR_len]; done) | (simp only [lenE, markR_len]; omega)) only [runE, mapE, listE, initT_5, initT_6, initT_7, initT_8, resV, oneV, binA, unA, reduceCtorEq, Nat.reduceEqDiff, Nat.reduceAdd, Nat.reduceLT, Nat.reduceLeDiff, Nat.reduceMul, Nat.reduceSub, ↓reduceIte, decide_true, decide_false, Bool.true_eq_false, Bool.false_eq_true, Bool.not_true, Bool.not_false, if_true, if_false, and_true, true_and, memE, celE, w64, Nat.zero_add, Nat.add_zero, Nat.mul_one, putL, and_self, ldn, bsl_one, bsl_sl']
    exact ⟨[[0]], one_lives (M3 := []) wE1.len, (wE1.ext (noRo_own noRo_nil)).ext (noRo_own noRo_nil), a, by omega, (kE1.ext _).ext _⟩
  | true =>
    have gd := goodSh_iff.1 hg
    have n8 := gd.n8
    simp (config := {implicitDefEqProofs := false, maxDischargeDepth := 20}) (disch := first | omega | (simp only [lenE]; done) | (simp only [lenE]; omega) | rfl | (simp only [lenE, markR_len]; done) | (simp only [lenE, markR_len]; omega)) only [runE, mapE, listE, initT_5, initT_6, initT_7, initT_8, resV, oneV, binA, unA, reduceCtorEq, Nat.reduceEqDiff, Nat.reduceAdd, Nat.reduceLT, Nat.reduceLeDiff, Nat.reduceMul, Nat.reduceSub, ↓reduceIte, decide_true, decide_false, Bool.true_eq_false, Bool.false_eq_true, Bool.not_true, Bool.not_false, if_true, if_false, and_true, true_and, memE, celE, w64, Nat.zero_add, Nat.add_zero, Nat.mul_one, putL, and_self, ldn, bE1.rd, hg]
    with_reducible refine ⟨?_, ?_⟩
    all_goals
      refine callH_ac (one_ac E1 cb id a l 2 kE1 (by omega) (by omega) (by omega)) ?_
      rintro r E2 ⟨nw, rfl, c2, a2, ha2, k2⟩
      have w2 := Cw.trans hid wE1 c2
      have b2 : OwnB E2 M.length 26 [.int .i64 s.life, u, w, .int .i64 s.waste, .int .i64 s.lost] := bE1.at_ (c2.old M.length (by omega) bE1.lt)
      simp (config := {implicitDefEqProofs := false, maxDischargeDepth := 20}) (disch := first | omega | (simp only [lenE]; done) | (simp only [lenE]; omega) | rfl | (simp only [lenE, markR_len]; done) | (simp only [lenE, markR_len]; omega)) only [runE, mapE, listE, initT_5, initT_6, initT_7, initT_8, resV, oneV, binA, unA, reduceCtorEq, Nat.reduceEqDiff, Nat.reduceAdd, Nat.reduceLT, Nat.reduceLeDiff, Nat.reduceMul, Nat.reduceSub, ↓reduceIte, decide_true, decide_false, Bool.true_eq_false, Bool.false_eq_true, Bool.not_true, Bool.not_false, if_true, if_false, and_true, true_and, memE, celE, w64, Nat.zero_add, Nat.add_zero, Nat.mul_one, putL, and_self, ldn, b2.rd]
      refine rcallH_rc (l9MakeX_rc E2 _ s nw (sh E2 w2) gd) ?_
      rintro r n2 ⟨nr2, tid, lo, R, F, rfl, hlo2, TX, hF⟩
      have q3 := (allG_ok gd nw s.need.length (Nat.le_refl _)).2.2
      have qv := allG_val gd nw s.need.length (Nat.le_refl _)
      have ql := allG_len s nw s.need.length
      have I : IT M (E2 ++ n2) cb id a2 l (allG s nw s.need.length).2 s.need.length tid lo R 20 :=
        ⟨hid, hcb, w2.ext nr2, k2.ext n2, by have := TX; unfold TabX at this ⊢; rw [← rowsC_one hF]; exact this, by have := w2.len; omega, ql, q3, fun j f hj hf => by have := qv j f hj hf; omega⟩
      obtain ⟨N, hN⟩ : ∃ N, N = E2 ++ n2 := ⟨_, rfl⟩
      rw [ql]
      rw [← hN] at I ⊢
      clear hN TX hF nr2 q3 qv ql b2 hlo2
      generalize (allG s nw s.need.length).2 = T at *
      obtain ⟨n, hn⟩ : ∃ n, n = s.need.length := ⟨_, rfl⟩
      rw [← hn] at I n8 ⊢
      by_cases h0 : n = 0
      · have hz : (((n : Nat) : Int) == 0) = true := by simp [h0]
        simp (config := {implicitDefEqProofs := false, maxDischargeDepth := 20}) (disch := first | omega | (simp only [lenE]; done) | (simp only [lenE]; omega) | rfl | (simp only [lenE, markR_len]; done) | (simp only [lenE, markR_len]; omega)) only [runE, mapE, listE, initT_5, initT_6, initT_7, initT_8, resV, oneV, binA, unA, reduceCtorEq, Nat.reduceEqDiff, Nat.reduceAdd, Nat.reduceLT, Nat.reduceLeDiff, Nat.reduceMul, Nat.reduceSub, ↓reduceIte, decide_true, decide_false, Bool.true_eq_false, Bool.false_eq_true, Bool.not_true, Bool.not_false, if_true, if_false, and_true, true_and, memE, celE, w64, Nat.zero_add, Nat.add_zero, Nat.mul_one, putL, and_self, ldn, hz]
        exact ⟨T, tabX_lives I.tab I.ge (by rw [I.len]; omega) (fun j hj => by rw [I.row j (by rw [← I.len]; exact hj)]; omega) I.len.symm, I.cw, a2, by omega, I.cur⟩
      have hz : (((n : Nat) : Int) == 0) = false := by simp [h0]
      simp (config := {implicitDefEqProofs := false, maxDischargeDepth := 20}) (disch := first | omega | (simp only [lenE]; done) | (simp only [lenE]; omega) | rfl | (simp only [lenE, markR_len]; done) | (simp only [lenE, markR_len]; omega)) only [runE, mapE, listE, initT_5, initT_6, initT_7, initT_8, resV, oneV, binA, unA, reduceCtorEq, Nat.reduceEqDiff, Nat.reduceAdd, Nat.reduceLT, Nat.reduceLeDiff, Nat.reduceMul, Nat.reduceSub, ↓reduceIte, decide_true, decide_false, Bool.true_eq_false, Bool.false_eq_true, Bool.not_true, Bool.not_false, if_true, if_false, and_true, true_and, memE, celE, w64, Nat.zero_add, Nat.add_zero, Nat.mul_one, putL, and_self, ldn, hz]
      refine callH_ac (pick_ac N cb id a2 l 4 I.cur (by omega) (by omega) (by omega)) ?_
      rintro r N1 ⟨x, rfl, hx0, hx1, c3, a3, ha3, k3⟩
      obtain ⟨k0, rfl⟩ : ∃ k : Nat, x = k := ⟨x.toNat, by omega⟩
      have I1 := (I.draw c3 k3).more (b' := 26 - 2 * (k0 : Int)) (by omega)
      simp (config := {implicitDefEqProofs := false, maxDischargeDepth := 20}) (disch := first | omega | (simp only [lenE]; done) | (simp only [lenE]; omega) | rfl | (simp only [lenE, markR_len]; done) | (simp only [lenE, markR_len]; omega)) only [runE, mapE, listE, initT_5, initT_6, initT_7, initT_8, resV, oneV, binA, unA, reduceCtorEq, Nat.reduceEqDiff, Nat.reduceAdd, Nat.reduceLT, Nat.reduceLeDiff, Nat.reduceMul, Nat.reduceSub, ↓reduceIte, decide_true, decide_false, Bool.true_eq_false, Bool.false_eq_true, Bool.not_true, Bool.not_false, if_true, if_false, and_true, true_and, memE, celE, w64, Nat.zero_add, Nat.add_zero, Nat.mul_one, putL, and_self, ldn]
      refine loop_inv mixed (fun s => ∃ (k : Nat) (N : Mem) (a' : Nat) (T : List (List Int)), k ≤ 3 ∧ s.m = N ∧ IT M N cb id a' l T n tid lo R (26 - 2 * (k : Int)) ∧ a' + 20 * k ≤ a + 200 ∧ s.t 0 = .pointer (some ⟨id, 0, none⟩) ∧ s.t 5 = .slice (some ⟨tid, 0, none⟩) n 1 ∧ s.t 6 = .int .i64 (k : Int)) (fun s => (intOf (s.t 6)).toNat)
        ⟨k0, N1, a3, T, by omega, rfl, I1, by omega, rfl, rfl, rfl⟩ ?_
      clear I I1 c3 k3 c2 k2
      rintro s' ⟨k, N, a', T, hk, tm, I, hab, t0, t5, t6⟩
      by_cases hlt : 0 < k
      · have hlt' : (0 : Int) < k := by omega
        simp (config := {implicitDefEqProofs := false, maxDischargeDepth := 20}) (disch := first | omega | (simp only [lenE]; done) | (simp only [lenE]; omega) | rfl | (simp only [lenE, markR_len]; done) | (simp only [lenE, markR_len]; omega)) only [runE, mapE, listE, initT_5, initT_6, initT_7, initT_8, resV, oneV, binA, unA, reduceCtorEq, Nat.reduceEqDiff, Nat.reduceAdd, Nat.reduceLT, Nat.reduceLeDiff, Nat.reduceMul, Nat.reduceSub, ↓reduceIte, decide_true, decide_false, Bool.true_eq_false, Bool.false_eq_true, Bool.not_true, Bool.not_false, if_true, if_false, and_true, true_and, memE, celE, w64, Nat.zero_add, Nat.add_zero, Nat.mul_one, putL, and_self, ldn, tm, t0, t5, t6, gt_iff_lt, hlt']
        refine callH_ac (pick_ac N cb id a' l n I.cur (by omega) (by omega) (by omega)) ?_
        rintro r P1 ⟨xt, rfl, ht0, ht1, c1, b1, hb1, f1⟩
        obtain ⟨t, rfl⟩ : ∃ t : Nat, xt = t := ⟨xt.toNat, by omega⟩
        have I1 := I.draw c1 f1
        simp (config := {implicitDefEqProofs := false, maxDischargeDepth := 20}) (disch := first | omega | (simp only [lenE]; done) | (simp only [lenE]; omega) | rfl | (simp only [lenE, markR_len]; done) | (simp only [lenE, markR_len]; omega)) only [runE, mapE, listE, initT_5, initT_6, initT_7, initT_8, resV, oneV, binA, unA, reduceCtorEq, Nat.reduceEqDiff, Nat.reduceAdd, Nat.reduceLT, Nat.reduceLeDiff, Nat.reduceMul, Nat.reduceSub, ↓reduceIte, decide_true, decide_false, Bool.true_eq_false, Bool.false_eq_true, Bool.not_true, Bool.not_false, if_true, if_false, and_true, true_and, memE, celE, w64, Nat.zero_add, Nat.add_zero, Nat.mul_one, putL, and_self, ldn, t0, t5, t6]
        refine callH_ac (pick_ac P1 cb id b1 l n I1.cur (by omega) (by omega) (by omega)) ?_
        rintro r P ⟨xf, rfl, hf0, hf1, c2, b2, hb2, f2⟩
        obtain ⟨f, rfl⟩ : ∃ f : Nat, xf = f := ⟨xf.toNat, by omega⟩
        have I2 := I1.draw c2 f2
        have htn : t < n := by omega
        have hfn : f < n := by omega
        have j1 : iadA 1 (.slice (some ⟨tid, 0, none⟩) n 1) (.int .i64 (t : Int)) = some (.pointer (some ⟨tid, t, none⟩)) := iad0 rfl htn
        have j2 : iadA 1 (.slice (some ⟨R t, 0, none⟩) n 1) (.int .i64 (f : Int)) = some (.pointer (some ⟨R t, f, none⟩)) := iad0 rfl hfn
        have d1 := I2.rd htn
        have d2 := I2.rd2 htn hfn
        have vb := I2.val t f htn hfn
        obtain ⟨z, hz'⟩ : ∃ z, z = (T.getD t []).getD f 0 := ⟨_, rfl⟩
        rw [← hz'] at d2 vb
        by_cases hpos : 0 < z
        · simp (config := {implicitDefEqProofs := false, maxDischargeDepth := 20}) (disch := first | omega | (simp only [lenE]; done) | (simp only [lenE]; omega) | rfl | (simp only [lenE, markR_len]; done) | (simp only [lenE, markR_len]; omega)) only [runE, mapE, listE, initT_5, initT_6, initT_7, initT_8, resV, oneV, binA, unA, reduceCtorEq, Nat.reduceEqDiff, Nat.reduceAdd, Nat.reduceLT, Nat.reduceLeDiff, Nat.reduceMul, Nat.reduceSub, ↓reduceIte, decide_true, decide_false, Bool.true_eq_false, Bool.false_eq_true, Bool.not_true, Bool.not_false, if_true, if_false, and_true, true_and, memE, celE, w64, Nat.zero_add, Nat.add_zero, Nat.mul_one, putL, and_self, ldn, t0, t5, t6, j1, j2, d1, d2, gt_iff_lt, hpos]
          obtain ⟨Q, T2, st, I4⟩ := I2.put htn hfn (z - 1) (b' := 27 - 2 * (k : Int)) (by omega) (by omega)
          have zf : IntKind.i64.wrap (z - 1) = z - 1 := IntWalk.i64_in _ ⟨by omega, by omega⟩
          try simp (config := {implicitDefEqProofs := false, maxDischargeDepth := 20}) (disch := first | omega | (simp only [lenE]; done) | (simp only [lenE]; omega) | rfl | (simp only [lenE, markR_len]; done) | (simp only [lenE, markR_len]; omega)) only [runE, mapE, listE, initT_5, initT_6, initT_7, initT_8, resV, oneV, binA, unA, reduceCtorEq, Nat.reduceEqDiff, Nat.reduceAdd, Nat.reduceLT, Nat.reduceLeDiff, Nat.reduceMul, Nat.reduceSub, ↓reduceIte, decide_true, decide_false, Bool.true_eq_false, Bool.false_eq_true, Bool.not_true, Bool.not_false, if_true, if_false, and_true, true_and, memE, celE, w64, Nat.zero_add, Nat.add_zero, Nat.mul_one, putL, and_self, ldn, t0, t5, t6, j1, j2, d1, d2, zf, st]
          refine callH_ac (pick_ac Q cb id b2 l n I4.cur (by omega) (by omega) (by omega)) ?_
          rintro r Q1 ⟨xu, rfl, hu0, hu1, c5, b5, hb5, f5⟩
          obtain ⟨q, rfl⟩ : ∃ q : Nat, xu = q := ⟨xu.toNat, by omega⟩
          have hqn : q < n := by omega
          have I5 := I4.draw c5 f5
          simp (config := {implicitDefEqProofs := false, maxDischargeDepth := 20}) (disch := first | omega | (simp only [lenE]; done) | (simp only [lenE]; omega) | rfl | (simp only [lenE, markR_len]; done) | (simp only [lenE, markR_len]; omega)) only [runE, mapE, listE, initT_5, initT_6, initT_7, initT_8, resV, oneV, binA, unA, reduceCtorEq, Nat.reduceEqDiff, Nat.reduceAdd, Nat.reduceLT, Nat.reduceLeDiff, Nat.reduceMul, Nat.reduceSub, ↓reduceIte, decide_true, decide_false, Bool.true_eq_false, Bool.false_eq_true, Bool.not_true, Bool.not_false, if_true, if_false, and_true, true_and, memE, celE, w64, Nat.zero_add, Nat.add_zero, Nat.mul_one, putL, and_self, ldn, t0, t5, t6]
          refine callH_ac (one_ac Q1 cb id b5 l 2 I5.cur (by omega) (by omega) (by omega)) ?_
          rintro r Q2 ⟨oc, rfl, c6, b6, hb6, f6⟩
          have I6 := I5.draw c6 f6
          cases oc with
          | false =>
            simp (config := {implicitDefEqProofs := false, maxDischargeDepth := 20}) (disch := first | omega | (simp only [lenE]; done) | (simp only [lenE]; omega) | rfl | (simp only [lenE, markR_len]; done) | (simp only [lenE, markR_len]; omega)) only [runE, mapE, listE, initT_5, initT_6, initT_7, initT_8, resV, oneV, binA, unA, reduceCtorEq, Nat.reduceEqDiff, Nat.reduceAdd, Nat.reduceLT, Nat.reduceLeDiff, Nat.reduceMul, Nat.reduceSub, ↓reduceIte, decide_true, decide_false, Bool.true_eq_false, Bool.false_eq_true, Bool.not_true, Bool.not_false, if_true, if_false, and_true, true_and, memE, celE, w64, Nat.zero_add, Nat.add_zero, Nat.mul_one, putL, and_self, ldn, t0, t5, t6]
            exact ⟨⟨k - 1, Q2, b6, T2, by omega, rfl, I6.more (by omega), by omega, by congr 1; omega⟩, by simp only [intOf]; omega⟩
          | true =>
            have j3 : iadA 1 (.slice (some ⟨tid, 0, none⟩) n 1) (.int .i64 (q : Int)) = some (.pointer (some ⟨tid, q, none⟩)) := iad0 rfl hqn
            have j4 : iadA 1 (.slice (some ⟨R q, 0, none⟩) n 1) (.int .i64 (f : Int)) = some (.pointer (some ⟨R q, f, none⟩)) := iad0 rfl hfn
            have d3 := I6.rd hqn
            have d4 := I6.rd2 hqn hfn
            have vb2 := I6.val q f hqn hfn
            obtain ⟨y, hy⟩ : ∃ y, y = (T2.getD q []).getD f 0 := ⟨_, rfl⟩
            rw [← hy] at d4 vb2
            obtain ⟨Q3, T3, st2, I7⟩ := I6.put hqn hfn (y + 1) (b' := 26 - 2 * ((k - 1 : Nat) : Int)) (by omega) (by omega)
            have yf : IntKind.i64.wrap (y + 1) = y + 1 := IntWalk.i64_in _ ⟨by omega, by omega⟩
            simp (config := {implicitDefEqProofs := false, maxDischargeDepth := 20}) (disch := first | omega | (simp only [lenE]; done) | (simp only [lenE]; omega) | rfl | (simp only [lenE, markR_len]; done) | (simp only [lenE, markR_len]; omega)) only [runE, mapE, listE, initT_5, initT_6, initT_7, initT_8, resV, oneV, binA, unA, reduceCtorEq, Nat.reduceEqDiff, Nat.reduceAdd, Nat.reduceLT, Nat.reduceLeDiff, Nat.reduceMul, Nat.reduceSub, ↓reduceIte, decide_true, decide_false, Bool.true_eq_false, Bool.false_eq_true, Bool.not_true, Bool.not_false, if_true, if_false, and_true, true_and, memE, celE, w64, Nat.zero_add, Nat.add_zero, Nat.mul_one, putL, and_self, ldn, t0, t5, t6, j3, j4, d3, d4, yf, st2]
            exact ⟨⟨k - 1, Q3, b6, T3, by omega, rfl, I7, by omega, by congr 1; omega⟩, by simp only [intOf]; omega⟩
        · simp (config := {implicitDefEqProofs := false, maxDischargeDepth := 20}) (disch := first | omega | (simp only [lenE]; done) | (simp only [lenE]; omega) | rfl | (simp only [lenE, markR_len]; done) | (simp only [lenE, markR_len]; omega)) only [runE, mapE, listE, initT_5, initT_6, initT_7, initT_8, resV, oneV, binA, unA, reduceCtorEq, Nat.reduceEqDiff, Nat.reduceAdd, Nat.reduceLT, Nat.reduceLeDiff, Nat.reduceMul, Nat.reduceSub, ↓reduceIte, decide_true, decide_false, Bool.true_eq_false, Bool.false_eq_true, Bool.not_true, Bool.not_false, if_true, if_false, and_true, true_and, memE, celE, w64, Nat.zero_add, Nat.add_zero, Nat.mul_one, putL, and_self, ldn, t0, t5, t6, j1, j2, d1, d2, gt_iff_lt, hpos]
          refine callH_ac (one_ac P cb id b2 l 8 I2.cur (by omega) (by omega) (by omega)) ?_
          rintro r P3 ⟨ob, rfl, c3, b3, hb3, f3⟩
          have I3 := I2.draw c3 f3
          cases ob with
          | false =>
            simp (config := {implicitDefEqProofs := false, maxDischargeDepth := 20}) (disch := first | omega | (simp only [lenE]; done) | (simp only [lenE]; omega) | rfl | (simp only [lenE, markR_len]; done) | (simp only [lenE, markR_len]; omega)) only [runE, mapE, listE, initT_5, initT_6, initT_7, initT_8, resV, oneV, binA, unA, reduceCtorEq, Nat.reduceEqDiff, Nat.reduceAdd, Nat.reduceLT, Nat.reduceLeDiff, Nat.reduceMul, Nat.reduceSub, ↓reduceIte, decide_true, decide_false, Bool.true_eq_false, Bool.false_eq_true, Bool.not_true, Bool.not_false, if_true, if_false, and_true, true_and, memE, celE, w64, Nat.zero_add, Nat.add_zero, Nat.mul_one, putL, and_self, ldn, t0, t5, t6]
            exact ⟨⟨k - 1, P3, b3, T, by omega, rfl, I3.more (by omega), by omega, by congr 1; omega⟩, by simp only [intOf]; omega⟩
          | true =>
            have d1 := I3.rd htn
            have d2 := I3.rd2 htn hfn
            rw [← hz'] at d2
            simp (config := {implicitDefEqProofs := false, maxDischargeDepth := 20}) (disch := first | omega | (simp only [lenE]; done) | (simp only [lenE]; omega) | rfl | (simp only [lenE, markR_len]; done) | (simp only [lenE, markR_len]; omega)) only [runE, mapE, listE, initT_5, initT_6, initT_7, initT_8, resV, oneV, binA, unA, reduceCtorEq, Nat.reduceEqDiff, Nat.reduceAdd, Nat.reduceLT, Nat.reduceLeDiff, Nat.reduceMul, Nat.reduceSub, ↓reduceIte, decide_true, decide_false, Bool.true_eq_false, Bool.false_eq_true, Bool.not_true, Bool.not_false, if_true, if_false, and_true, true_and, memE, celE, w64, Nat.zero_add, Nat.add_zero, Nat.mul_one, putL, and_self, ldn, t0, t5, t6]
            obtain ⟨Q, T2, st, I4⟩ := I3.put htn hfn (z - 1) (b' := 27 - 2 * (k : Int)) (by omega) (by omega)
            have zf : IntKind.i64.wrap (z - 1) = z - 1 := IntWalk.i64_in _ ⟨by omega, by omega⟩
            try simp (config := {implicitDefEqProofs := false, maxDischargeDepth := 20}) (disch := first | omega | (simp only [lenE]; done) | (simp only [lenE]; omega) | rfl | (simp only [lenE, markR_len]; done) | (simp only [lenE, markR_len]; omega)) only [runE, mapE, listE, initT_5, initT_6, initT_7, initT_8, resV, oneV, binA, unA, reduceCtorEq, Nat.reduceEqDiff, Nat.reduceAdd, Nat.reduceLT, Nat.reduceLeDiff, Nat.reduceMul, Nat.reduceSub, ↓reduceIte, decide_true, decide_false, Bool.true_eq_false, Bool.false_eq_true, Bool.not_true, Bool.not_false, if_true, if_false, and_true, true_and, memE, celE, w64, Nat.zero_add, Nat.add_zero, Nat.mul_one, putL, and_self, ldn, t0, t5, t6, j1, j2, d1, d2, zf, st]
            refine callH_ac (pick_ac Q cb id b3 l n I4.cur (by omega) (by omega) (by omega)) ?_
            rintro r Q1 ⟨xu, rfl, hu0, hu1, c5, b5, hb5, f5⟩
            obtain ⟨q, rfl⟩ : ∃ q : Nat, xu = q := ⟨xu.toNat, by omega⟩
            have hqn : q < n := by omega
            have I5 := I4.draw c5 f5
            simp (config := {implicitDefEqProofs := false, maxDischargeDepth := 20}) (disch := first | omega | (simp only [lenE]; done) | (simp only [lenE]; omega) | rfl | (simp only [lenE, markR_len]; done) | (simp only [lenE, markR_len]; omega)) only [runE, mapE, listE, initT_5, initT_6, initT_7, initT_8, resV, oneV, binA, unA, reduceCtorEq, Nat.reduceEqDiff, Nat.reduceAdd, Nat.reduceLT, Nat.reduceLeDiff, Nat.reduceMul, Nat.reduceSub, ↓reduceIte, decide_true, decide_false, Bool.true_eq_false, Bool.false_eq_true, Bool.not_true, Bool.not_false, if_true, if_false, and_true, true_and, memE, celE, w64, Nat.zero_add, Nat.add_zero, Nat.mul_one, putL, and_self, ldn, t0, t5, t6]
            refine callH_ac (one_ac Q1 cb id b5 l 2 I5.cur (by omega) (by omega) (by omega)) ?_
            rintro r Q2 ⟨oc, rfl, c6, b6, hb6, f6⟩
            have I6 := I5.draw c6 f6
            cases oc with
            | false =>
              simp (config := {implicitDefEqProofs := false, maxDischargeDepth := 20}) (disch := first | omega | (simp only [lenE]; done) | (simp only [lenE]; omega) | rfl | (simp only [lenE, markR_len]; done) | (simp only [lenE, markR_len]; omega)) only [runE, mapE, listE, initT_5, initT_6, initT_7, initT_8, resV, oneV, binA, unA, reduceCtorEq, Nat.reduceEqDiff, Nat.reduceAdd, Nat.reduceLT, Nat.reduceLeDiff, Nat.reduceMul, Nat.reduceSub, ↓reduceIte, decide_true, decide_false, Bool.true_eq_false, Bool.false_eq_true, Bool.not_true, Bool.not_false, if_true, if_false, and_true, true_and, memE, celE, w64, Nat.zero_add, Nat.add_zero, Nat.mul_one, putL, and_self, ldn, t0, t5, t6]
              exact ⟨⟨k - 1, Q2, b6, T2, by omega, rfl, I6.more (by omega), by omega, by congr 1; omega⟩, by simp only [intOf]; omega⟩
            | true =>
              have j3 : iadA 1 (.slice (some ⟨tid, 0, none⟩) n 1) (.int .i64 (q : Int)) = some (.pointer (some ⟨tid, q, none⟩)) := iad0 rfl hqn
              have j4 : iadA 1 (.slice (some ⟨R q, 0, none⟩) n 1) (.int .i64 (f : Int)) = some (.pointer (some ⟨R q, f, none⟩)) := iad0 rfl hfn
              have d3 := I6.rd hqn
              have d4 := I6.rd2 hqn hfn
              have vb2 := I6.val q f hqn hfn
              obtain ⟨y, hy⟩ : ∃ y, y = (T2.getD q []).getD f 0 := ⟨_, rfl⟩
              rw [← hy] at d4 vb2
              obtain ⟨Q3, T3, st2, I7⟩ := I6.put hqn hfn (y + 1) (b' := 26 - 2 * ((k - 1 : Nat) : Int)) (by omega) (by omega)
              have yf : IntKind.i64.wrap (y + 1) = y + 1 := IntWalk.i64_in _ ⟨by omega, by omega⟩
              simp (config := {implicitDefEqProofs := false, maxDischargeDepth := 20}) (disch := first | omega | (simp only [lenE]; done) | (simp only [lenE]; omega) | rfl | (simp only [lenE, markR_len]; done) | (simp only [lenE, markR_len]; omega)) only [runE, mapE, listE, initT_5, initT_6, initT_7, initT_8, resV, oneV, binA, unA, reduceCtorEq, Nat.reduceEqDiff, Nat.reduceAdd, Nat.reduceLT, Nat.reduceLeDiff, Nat.reduceMul, Nat.reduceSub, ↓reduceIte, decide_true, decide_false, Bool.true_eq_false, Bool.false_eq_true, Bool.not_true, Bool.not_false, if_true, if_false, and_true, true_and, memE, celE, w64, Nat.zero_add, Nat.add_zero, Nat.mul_one, putL, and_self, ldn, t0, t5, t6, j3, j4, d3, d4, yf, st2]
              exact ⟨⟨k - 1, Q3, b6, T3, by omega, rfl, I7, by omega, by congr 1; omega⟩, by simp only [intOf]; omega⟩
      · have hlt' : ¬ ((0 : Int) < k) := by omega
        simp (config := {implicitDefEqProofs := false, maxDischargeDepth := 20}) (disch := first | omega | (simp only [lenE]; done) | (simp only [lenE]; omega) | rfl | (simp only [lenE, markR_len]; done) | (simp only [lenE, markR_len]; omega)) only [runE, mapE, listE, initT_5, initT_6, initT_7, initT_8, resV, oneV, binA, unA, reduceCtorEq, Nat.reduceEqDiff, Nat.reduceAdd, Nat.reduceLT, Nat.reduceLeDiff, Nat.reduceMul, Nat.reduceSub, ↓reduceIte, decide_true, decide_false, Bool.true_eq_false, Bool.false_eq_true, Bool.not_true, Bool.not_false, if_true, if_false, and_true, true_and, memE, celE, w64, Nat.zero_add, Nat.add_zero, Nat.mul_one, putL, and_self, ldn, tm, t0, t5, t6, gt_iff_lt, hlt']
        refine callH_ac (one_ac N cb id a' l 24 I.cur (by omega) (by omega) (by omega)) ?_
        rintro r P ⟨bb, rfl, c1, b1, hb1, f1⟩
        have I := I.draw c1 f1
        cases bb with
        | false =>
          simp (config := {implicitDefEqProofs := false, maxDischargeDepth := 20}) (disch := first | omega | (simp only [lenE]; done) | (simp only [lenE]; omega) | rfl | (simp only [lenE, markR_len]; done) | (simp only [lenE, markR_len]; omega)) only [runE, mapE, listE, initT_5, initT_6, initT_7, initT_8, resV, oneV, binA, unA, reduceCtorEq, Nat.reduceEqDiff, Nat.reduceAdd, Nat.reduceLT, Nat.reduceLeDiff, Nat.reduceMul, Nat.reduceSub, ↓reduceIte, decide_true, decide_false, Bool.true_eq_false, Bool.false_eq_true, Bool.not_true, Bool.not_false, if_true, if_false, and_true, true_and, memE, celE, w64, Nat.zero_add, Nat.add_zero, Nat.mul_one, putL, and_self, ldn, t0, t5, t6]
          exact ⟨T, tabX_lives I.tab I.ge (by rw [I.len]; omega) (fun j hj => by rw [I.row j (by rw [← I.len]; exact hj)]; omega) I.len.symm, I.cw, b1, by omega, I.cur⟩
        | true =>
          have j0 : iadA 1 (.slice (some ⟨tid, 0, none⟩) n 1) (.int .i64 0) = some (.pointer (some ⟨tid, 0, none⟩)) := iad0 (j := 0) rfl (by omega)
          have d0 := I.rd (j := 0) (by omega)
          obtain ⟨Q1, Q2, T2, ap, st, lt, cq, kq⟩ := I.app (by omega) n8 0
          simp (config := {implicitDefEqProofs := false, maxDischargeDepth := 20}) (disch := first | omega | (simp only [lenE]; done) | (simp only [lenE]; omega) | rfl | (simp only [lenE, markR_len]; done) | (simp only [lenE, markR_len]; omega)) only [runE, mapE, listE, initT_5, initT_6, initT_7, initT_8, resV, oneV, binA, unA, reduceCtorEq, Nat.reduceEqDiff, Nat.reduceAdd, Nat.reduceLT, Nat.reduceLeDiff, Nat.reduceMul, Nat.reduceSub, ↓reduceIte, decide_true, decide_false, Bool.true_eq_false, Bool.false_eq_true, Bool.not_true, Bool.not_false, if_true, if_false, and_true, true_and, memE, celE, w64, Nat.zero_add, Nat.add_zero, Nat.mul_one, putL, and_self, ldn, t0, t5, t6, j0, d0, bsl_one, ap, st]
          exact ⟨T2, lt, cq, b1, by omega, kq⟩
end Go.Proofs.Ytdgfbmilbhckiaa.Ab
end
section
namespace Go.Proofs.Ytdgfbmilbhckiaa.Ab
open Go Go.RowKit
set_option linter.unusedVariables false
set_option linter.unusedSimpArgs false
theorem Grow.ext {m M : Mem} {e : TypeId} {cs : List Value} (h : Grow (roM m ++ [⟨.own, e, cs⟩]) M) : Ext m M := ((Ext.refl m).one _ _).grow h
end Go.Proofs.Ytdgfbmilbhckiaa.Ab
end
section
namespace Go.Proofs.Ytdgfbmilbhckiaa
set_option linter.unusedVariables false
set_option linter.unusedSimpArgs false
structure Rising (ps : List Int) (n : Nat) : Prop where
  bd : ∀ i, i < ps.length → 0 ≤ ps.getD i 0 ∧ ps.getD i 0 < n
  up : ∀ i, i + 1 < ps.length → ps.getD i 0 < ps.getD (i + 1) 0
def bitsL (c : Nat) : Nat → List Int
  | 0 => []
  | x + 1 => if c / 2 ^ x % 2 = 1 then bitsL c x ++ [(x : Int)] else bitsL c x
theorem bitsL_len (c x : Nat) : (bitsL c x).length ≤ x := by
  induction x with
  | zero => simp [bitsL]
  | succ x ih =>
    rw [bitsL]
    split
    · rw [List.length_append]; simp only [List.length_cons, List.length_nil]; omega
    · omega
theorem bitsL_mem (c x : Nat) : ∀ y ∈ bitsL c x, 0 ≤ y ∧ y < (x : Int) := by
  induction x with
  | zero => intro y hy; simp [bitsL] at hy
  | succ x ih =>
    intro y hy
    rw [bitsL] at hy
    split at hy
    · rcases List.mem_append.1 hy with h | h
      · have := ih y h; omega
      · simp at h; omega
    · have := ih y hy; omega
theorem getD_app_l (l r : List Int) {i : Nat} (h : i < l.length) : (l ++ r).getD i 0 = l.getD i 0 := by
  rw [List.getD_eq_getElem?_getD, List.getElem?_append_left h, ← List.getD_eq_getElem?_getD]
theorem getD_app_one (l : List Int) (x : Int) : (l ++ [x]).getD l.length 0 = x := by simp [List.getD_eq_getElem?_getD]
theorem getD_mem {l : List Int} {i : Nat} (h : i < l.length) : l.getD i 0 ∈ l := by
  rw [List.getD_eq_getElem?_getD, List.getElem?_eq_getElem h]; exact List.getElem_mem h
theorem bitsL_rising (c x : Nat) : Rising (bitsL c x) x := by
  refine ⟨fun i hi => bitsL_mem c x _ (getD_mem hi), ?_⟩
  induction x with
  | zero => intro i hi; simp [bitsL] at hi
  | succ x ih =>
    intro i hi
    rw [bitsL] at hi ⊢
    by_cases hb : c / 2 ^ x % 2 = 1
    · rw [if_pos hb] at hi ⊢
      simp only [List.length_append, List.length_cons, List.length_nil] at hi
      rw [getD_app_l _ _ (by omega)]
      by_cases h2 : i + 1 < (bitsL c x).length
      · rw [getD_app_l _ _ h2]; exact ih i h2
      · have e : i + 1 = (bitsL c x).length := by omega
        rw [e, getD_app_one]
        exact (bitsL_mem c x _ (getD_mem (by omega))).2
    · rw [if_neg hb] at hi ⊢; exact ih i hi
def lexB : List Int → List Int → Bool
  | x :: xs, y :: ys => if x = y then lexB xs ys else decide (x < y)
  | _, _ => false
def beforeB (a b : List Int) : Bool := if a.length = b.length then lexB a b else decide (a.length < b.length)
def beg (n : Nat) (ps : List Int) (i : Nat) : Nat := if i < ps.length then (ps.getD i 0).toNat else n
theorem Rising.lt {ps : List Int} {n : Nat} (h : Rising ps n) {i j : Nat} (hij : i < j) (hj : j < ps.length) : ps.getD i 0 < ps.getD j 0 := by
  induction j with
  | zero => omega
  | succ j ih =>
    have := h.up j hj
    by_cases e : i = j
    · subst e; exact this
    · have := ih (by omega) (by omega); omega
theorem Rising.nil (n : Nat) : Rising [] n := ⟨fun i hi => absurd hi (by simp), fun i hi => absurd hi (by simp)⟩
theorem beg_le {n : Nat} {ps : List Int} (h : Rising ps n) (i : Nat) : beg n ps i ≤ n := by
  unfold beg
  split
  · have := h.bd i ‹_›; omega
  · omega
theorem beg_nil (n i : Nat) : beg n [] i = n := by simp [beg]
theorem beg_cons0 (n : Nat) (p : Int) (r : List Int) : beg n (p :: r) 0 = p.toNat := by simp [beg]
theorem Rising.tail {p : Int} {r : List Int} {n : Nat} (h : Rising (p :: r) n) : Rising r n ∧ 0 ≤ p ∧ p.toNat < beg n r 0 := by
  have h0 := h.bd 0 (by simp)
  simp only [List.getD_cons_zero] at h0
  refine ⟨⟨fun i hi => ?_, fun i hi => ?_⟩, h0.1, ?_⟩
  · have := h.bd (i + 1) (by simpa using hi); simpa using this
  · have := h.up (i + 1) (by simpa using hi); simpa using this
  · unfold beg
    split
    · rename_i hl
      have := h.up 0 (by simpa using hl)
      simp only [List.getD_cons_zero, Nat.zero_add, List.getD_cons_succ] at this
      omega
    · omega
theorem Rising.cons {p : Int} {r : List Int} {n : Nat} (h : Rising r n) (h0 : 0 ≤ p) (hp : p.toNat < beg n r 0) : Rising (p :: r) n := by
  have hb := beg_le h 0
  refine ⟨fun i hi => ?_, fun i hi => ?_⟩
  · cases i with
    | zero => simp only [List.getD_cons_zero]; omega
    | succ i => have := h.bd i (by simpa using hi); simpa using this
  · cases i with
    | zero =>
      simp only [List.getD_cons_zero, Nat.zero_add, List.getD_cons_succ]
      have hl : 0 < r.length := by simpa using hi
      unfold beg at hp
      rw [if_pos hl] at hp
      omega
    | succ i => have := h.up i (by simpa using hi); simpa using this

theorem Rising.len {n : Nat} : ∀ {ps : List Int}, Rising ps n → ps.length + beg n ps 0 ≤ n := by
  intro ps
  induction ps with
  | nil => intro h; rw [beg_nil]; simp
  | cons p r ih =>
    intro h
    obtain ⟨h1, h2, h3⟩ := h.tail
    have := ih h1
    rw [beg_cons0, List.length_cons]
    omega
def bef (a b : Int × List Int) : Bool := if a.1 = b.1 then beforeB a.2 b.2 else decide (a.1 < b.1)
def IsMin (S : List Int → Prop) (f : List Int → Int) (b : List Int) : Prop := S b ∧ ∀ y, S y → y = b ∨ bef (f b, b) (f y, y) = true
theorem IsMin.congr {S T : List Int → Prop} {f : List Int → Int} {a : List Int} (ha : IsMin S f a) (h : ∀ y, T y ↔ S y) : IsMin T f a :=
  ⟨(h a).2 ha.1, fun y hy => ha.2 y ((h y).1 hy)⟩
theorem bits_all : ∀ (n : Nat) (ps : List Int), Rising ps n → ∃ c, c < 2 ^ n ∧ ps = bitsL c n := by
  intro n
  induction n with
  | zero =>
    intro ps h
    cases ps with
    | nil => exact ⟨0, by simp, rfl⟩
    | cons p r => have := h.bd 0 (by simp); simp at this; omega
  | succ n ih =>
    intro ps h
    have low : ∀ (c x : Nat), x ≤ n → bitsL (c + 2 ^ n) x = bitsL c x := by
      intro c x hx
      induction x with
      | zero => rfl
      | succ x ihx =>
        have e : (c + 2 ^ n) / 2 ^ x % 2 = c / 2 ^ x % 2 := by
          have h1 : 2 ^ n = 2 ^ x * (2 * 2 ^ (n - x - 1)) := by
            rw [← Nat.pow_succ', ← Nat.pow_add]; congr 1; omega
          rw [h1, Nat.add_mul_div_left _ _ (Nat.two_pow_pos x), Nat.add_mul_mod_self_left]
        rw [bitsL, bitsL, e, ihx (by omega)]
    by_cases hl : 0 < ps.length ∧ ps.getD (ps.length - 1) 0 = n
    · have hd : ps = ps.dropLast ++ [(n : Int)] := by
        have hne : ps ≠ [] := by intro e; rw [e] at hl; simp at hl
        have := List.dropLast_concat_getLast hne
        rw [← this]
        congr 1
        · simp
        · congr 1
          have h2 := hl.2
          rw [List.getD_eq_getElem?_getD, List.getElem?_eq_getElem (by omega)] at h2
          rw [List.getLast_eq_getElem]
          simpa using h2
      have hlen : ps.dropLast.length = ps.length - 1 := List.length_dropLast
      have hget : ∀ i, i < ps.length - 1 → ps.dropLast.getD i 0 = ps.getD i 0 := fun i hi => by
        rw [List.getD_eq_getElem?_getD, List.getD_eq_getElem?_getD, List.getElem?_dropLast, if_pos hi]
      have hr : Rising ps.dropLast n := by
        refine ⟨fun i hi => ?_, fun i hi => ?_⟩
        · rw [hget i (by omega)]
          have h1 := h.bd i (by omega)
          have h2 := h.lt (i := i) (j := ps.length - 1) (by omega) (by omega)
          rw [hl.2] at h2
          omega
        · rw [hget i (by omega), hget (i + 1) (by omega)]
          exact h.up i (by omega)
      obtain ⟨c, hc, he⟩ := ih _ hr
      refine ⟨c + 2 ^ n, by rw [Nat.pow_succ]; omega, ?_⟩
      have hbit : (c + 2 ^ n) / 2 ^ n % 2 = 1 := by
        rw [Nat.add_div_right _ (Nat.two_pow_pos n), Nat.div_eq_of_lt hc]
      rw [bitsL, if_pos hbit, low c n (Nat.le_refl _), ← he]
      exact hd
    · have hr : Rising ps n := by
        refine ⟨fun i hi => ?_, h.up⟩
        have h1 := h.bd i hi
        refine ⟨h1.1, ?_⟩
        by_cases e : i = ps.length - 1
        · have : ps.getD i 0 ≠ n := fun e2 => hl ⟨by omega, by rw [← e]; exact e2⟩
          omega
        · have := h.lt (i := i) (j := ps.length - 1) (by omega) (by omega)
          have := (h.bd (ps.length - 1) (by omega)).2
          omega
      obtain ⟨c, hc, he⟩ := ih _ hr
      refine ⟨c, by rw [Nat.pow_succ]; omega, ?_⟩
      rw [bitsL, Nat.div_eq_of_lt hc, if_neg (by simp)]
      exact he
end Go.Proofs.Ytdgfbmilbhckiaa
end
section
namespace Go.Proofs.Ytdgfbmilbhckiaa.Ab
open Go Go.RowKit
set_option linter.unusedVariables false
set_option linter.unusedSimpArgs false
theorem and1 (x : Nat) : (BitVec.ofInt 64 (x : Int) &&& BitVec.ofInt 64 1).toNat = x % 2 := by
  rw [show (BitVec.ofInt 64 (1 : Int)) = 1#64 from rfl]
  rw [BitVec.toNat_and, BitVec.toNat_ofInt]
  simp [Nat.and_one_is_mod]
  omega
theorem and1w (x : Nat) (h : x ≤ 1000) : IntKind.wrap .i64 (((BitVec.ofInt IntKind.i64.bits (x : Int) &&& BitVec.ofInt IntKind.i64.bits 1).toNat : Nat) : Int) = ((x % 2 : Nat) : Int) := by
  rw [show ((BitVec.ofInt IntKind.i64.bits (x : Int) &&& BitVec.ofInt IntKind.i64.bits 1).toNat) = x % 2 from and1 x]
  exact w64 ⟨by omega, by omega⟩
theorem shr_code {c x : Nat} (h : x ≤ 63) : (c : Int).fdiv (2 ^ (min ((x : Nat) : Int).toNat IntKind.i64.bits)) = ((c / 2 ^ x : Nat) : Int) := by
  have : min ((x : Nat) : Int).toNat IntKind.i64.bits = x := by
    have : IntKind.i64.bits = 64 := rfl
    rw [this]; omega
  rw [this]
  have e : (2 : Int) ^ x = ((2 ^ x : Nat) : Int) := by simp
  rw [e, Int.natCast_ediv]
  exact Int.fdiv_eq_ediv_of_nonneg _ (Int.natCast_nonneg _)

theorem shl1 {n : Nat} (h : n ≤ 8) : IntKind.wrap .i64 (1 * 2 ^ (min ((n : Nat) : Int).toNat IntKind.i64.bits)) = ((2 ^ n : Nat) : Int) := by
  have : min ((n : Nat) : Int).toNat IntKind.i64.bits = n := by
    have : IntKind.i64.bits = 64 := rfl
    rw [this]; omega
  rw [this]
  have e : (2 : Int) ^ n = ((2 ^ n : Nat) : Int) := by simp
  have h2 : 2 ^ n ≤ 2 ^ 8 := Nat.pow_le_pow_right (by omega) h
  rw [e, Int.one_mul]
  have h3 : ((2 ^ n : Nat) : Int) ≤ 256 := by omega
  exact w64 ⟨by have := Int.natCast_nonneg (2 ^ n); omega, by omega⟩

end Go.Proofs.Ytdgfbmilbhckiaa.Ab
end
section
namespace Go.Proofs.Ytdgfbmilbhckiaa.Ab
open Go Go.RowKit Go.Proofs
set_option maxRecDepth 100000
def c_laws_vBig : ACode := .seq (.reg [⟨(some 2), .mv (.const (.bool false)), none⟩])
 (.seq (.reg [⟨(some 3), .mv (.tmp 0), none⟩,
  ⟨(some 4), .len (.tmp 3), none⟩,
  ⟨(some 5), .bin .gtr (.tmp 4) (.const (.int .i64 65536)), none⟩,
  ⟨(some 2), .mv (.tmp 5), none⟩])
 (.ret))
def r_laws_vBig : List ARes := [.tmp 2]
theorem ok_laws_vBig : FnOk Try.prog 6 6 c_laws_vBig r_laws_vBig := ⟨⟨Try.f6, _, Try.func6, by kernel_rfl, rfl, rfl, by kernel_rfl, by kernel_rfl⟩⟩
def c_laws_vInts : ACode := .seq (.reg [⟨(some 4), .mv (.const (.bool false)), none⟩])
 (.seq (.seq (.reg [⟨(some 6), .mv (.tmp 0), none⟩,
  ⟨(some 7), .len (.tmp 6), none⟩,
  ⟨(some 8), .mv (.tmp 1), none⟩,
  ⟨(some 9), .len (.tmp 8), none⟩,
  ⟨(some 10), .bin .neq (.tmp 7) (.tmp 9), none⟩])
 (.cond (.tmp 10) (.seq (.reg [⟨(some 4), .mv (.const (.bool false)), none⟩])
 (.ret)) (.skip)))
 (.seq (.seq (.reg [⟨(some 5), .mv (.const (.int .i64 0)), none⟩])
 (.block 0 (.loop (.seq (.seq (.reg [⟨(some 11), .mv (.tmp 5), none⟩,
  ⟨(some 12), .mv (.tmp 0), none⟩,
  ⟨(some 13), .len (.tmp 12), none⟩,
  ⟨(some 14), .bin .lss (.tmp 11) (.tmp 13), none⟩])
 (.cond (.tmp 14) (.skip) (.exit 0)))
 (.seq (.block 1 (.seq (.reg [⟨(some 17), .mv (.tmp 0), none⟩,
  ⟨(some 18), .mv (.tmp 5), none⟩,
  ⟨(some 19), .iad 1 (.tmp 17) (.tmp 18), none⟩,
  ⟨(some 20), .ld none (.tmp 19), none⟩,
  ⟨(some 21), .mv (.tmp 1), none⟩,
  ⟨(some 22), .mv (.tmp 5), none⟩,
  ⟨(some 23), .iad 1 (.tmp 21) (.tmp 22), none⟩,
  ⟨(some 24), .ld none (.tmp 23), none⟩,
  ⟨(some 25), .bin .neq (.tmp 20) (.tmp 24), none⟩])
 (.cond (.tmp 25) (.seq (.reg [⟨(some 4), .mv (.const (.bool false)), none⟩])
 (.ret)) (.skip))))
 (.reg [⟨(some 15), .mv (.tmp 5), none⟩,
  ⟨(some 16), .bin .add (.tmp 15) (.const (.int .i64 1)), none⟩,
  ⟨(some 5), .mv (.tmp 16), none⟩]))))))
 (.seq (.reg [⟨(some 4), .mv (.const (.bool true)), none⟩])
 (.ret))))
def r_laws_vInts : List ARes := [.tmp 4]
theorem ok_laws_vInts : FnOk Try.prog 22 26 c_laws_vInts r_laws_vInts := ⟨⟨Try.f22, _, Try.func22, by kernel_rfl, rfl, rfl, by kernel_rfl, by kernel_rfl⟩⟩
def c_laws_vCut : ACode := .seq (.reg [⟨(some 4), .mv (.const (.slice none 0 0)), none⟩])
 (.seq (.seq (.reg [⟨(some 5), .mv (.tmp 1), none⟩,
  ⟨(some 6), .mv (.tmp 0), none⟩,
  ⟨(some 7), .len (.tmp 6), none⟩,
  ⟨(some 8), .bin .gtr (.tmp 5) (.tmp 7), none⟩])
 (.cond (.tmp 8) (.reg [⟨(some 9), .mv (.tmp 0), none⟩,
  ⟨(some 10), .len (.tmp 9), none⟩,
  ⟨(some 1), .mv (.tmp 10), none⟩]) (.skip)))
 (.seq (.reg [⟨(some 11), .bsl 5 1 0 [] [], none⟩,
  ⟨(some 12), .mv (.tmp 0), none⟩,
  ⟨(some 13), .mv (.tmp 1), none⟩,
  ⟨(some 14), .slc 1 (.tmp 12) (some (.tmp 13)) none, none⟩,
  ⟨(some 15), .app 5 1 1 (.tmp 11) (.tmp 14), none⟩,
  ⟨(some 16), .mv (.tmp 1), none⟩,
  ⟨(some 17), .conv .u8 (.tmp 16), none⟩,
  ⟨(some 18), .bsl 5 1 1 [(.int .u8 0)] [(0, 1, (.tmp 17))], none⟩,
  ⟨(some 19), .app 5 1 1 (.tmp 15) (.tmp 18), none⟩,
  ⟨(some 4), .mv (.tmp 19), none⟩])
 (.ret)))
def r_laws_vCut : List ARes := [.tmp 4]
theorem ok_laws_vCut : FnOk Try.prog 33 20 c_laws_vCut r_laws_vCut := ⟨⟨Try.f33, _, Try.func33, by kernel_rfl, rfl, rfl, by kernel_rfl, by kernel_rfl⟩⟩
end Go.Proofs.Ytdgfbmilbhckiaa.Ab
end
section
namespace Go.Proofs.Ytdgfbmilbhckiaa.Ab
open Go Go.RowKit
set_option linter.unusedVariables false
set_option linter.unusedSimpArgs false
structure BytesA (m : Mem) (cb : Nat) (l : List Int) : Prop where
  blk : ∃ kd, kd ≠ Kd.dead ∧ m[cb]? = some ⟨kd, 5, l.map (Value.int .u8)⟩
  byte : ∀ x ∈ l, 0 ≤ x ∧ x ≤ 255
  few : l.length ≤ 65536
theorem BytesA.ro {m : Mem} {cb : Nat} {l : List Int} (h : BytesA m cb l) : (roM m)[cb]? = some ⟨.ro, 5, l.map (Value.int .u8)⟩ := by
  obtain ⟨kd, hk, hb⟩ := h.blk
  unfold roM
  rw [List.getElem?_map, hb]
  cases kd with
  | dead => exact absurd rfl hk
  | ro => rfl
  | own => rfl
theorem BytesA.ext {m : Mem} {cb : Nat} {l : List Int} (h : BytesA m cb l) (new : Mem) : BytesA (m ++ new) cb l := by
  obtain ⟨kd, hk, hb⟩ := h.blk
  exact ⟨⟨kd, hk, by rw [List.getElem?_append_left (List.getElem?_eq_some_iff.1 hb).1]; exact hb⟩, h.byte, h.few⟩
theorem bldCur (A : Option Addr) (n c : Nat) : bldA [.slice none 0 0, .int .i64 0, .int .u64 0] [(0, 1, .slice A n c)] = some (.agg #[.slice A n c, .int .i64 0, .int .u64 0]) := rfl

theorem vBig_rc (m : Mem) (cb fl : Nat) (n : Nat) : RC Try.prog 6 [.slice (some ⟨cb, 0, none⟩) n fl] m fun r new => r = .bool (decide (65536 < n)) ∧ new = [] := by
  refine rc_of_run mixed ok_laws_vBig (by simp) (go_start _ _ _ ?_)
  simp (config := {implicitDefEqProofs := false, maxDischargeDepth := 20}) (disch := first | omega | (simp only [lenE]; done) | (simp only [lenE]; omega) | rfl | (simp only [lenE, markR_len]; done) | (simp only [lenE, markR_len]; omega)) only [runE, mapE, listE, initT_5, initT_6, initT_7, initT_8, resV, oneV, binA, unA, reduceCtorEq, Nat.reduceEqDiff, Nat.reduceAdd, Nat.reduceLT, Nat.reduceLeDiff, Nat.reduceMul, Nat.reduceSub, ↓reduceIte, decide_true, decide_false, Bool.true_eq_false, Bool.false_eq_true, Bool.not_true, Bool.not_false, if_true, if_false, and_true, true_and, memE, celE, w64, Nat.zero_add, Nat.add_zero, Nat.mul_one, putL, and_self, ldn, c_laws_vBig, r_laws_vBig, gt_iff_lt]
  refine newQ_nil ⟨?_, rfl⟩
  congr 1
  rw [decide_eq_decide]
  omega
theorem vInts_rc (m : Mem) (v u : Value) (l : List Int) (h : IntsA m v l) (h' : IntsA m u l) : RC Try.prog 22 [v, u] m fun r new => r = .bool true ∧ new = [] := by
  refine rc_of_run mixed ok_laws_vInts (by simp) (go_start _ _ _ ?_)
  obtain ⟨e1, e2, e3, e4, -⟩ := h.ro
  obtain ⟨d1, d2, d3, d4, -⟩ := h'.ro
  simp (config := {implicitDefEqProofs := false, maxDischargeDepth := 20}) (disch := first | omega | (simp only [lenE]; done) | (simp only [lenE]; omega) | rfl | (simp only [lenE, markR_len]; done) | (simp only [lenE, markR_len]; omega)) only [runE, mapE, listE, initT_5, initT_6, initT_7, initT_8, resV, oneV, binA, unA, reduceCtorEq, Nat.reduceEqDiff, Nat.reduceAdd, Nat.reduceLT, Nat.reduceLeDiff, Nat.reduceMul, Nat.reduceSub, ↓reduceIte, decide_true, decide_false, Bool.true_eq_false, Bool.false_eq_true, Bool.not_true, Bool.not_false, if_true, if_false, and_true, true_and, memE, celE, w64, Nat.zero_add, Nat.add_zero, Nat.mul_one, putL, and_self, ldn, c_laws_vInts, r_laws_vInts, e1, d1, bne_self_eq_false]
  refine loop_inv mixed (fun s => ∃ k : Nat, k ≤ l.length ∧ s.t 0 = v ∧ s.t 1 = u ∧ s.t 5 = .int .i64 k ∧ s.m = roM m) (fun s => l.length - (intOf (s.t 5)).toNat) ⟨0, by omega, rfl, rfl, rfl, rfl⟩ ?_
  rintro s ⟨k, hk, t0, t1, t5, tm⟩
  by_cases hlt : k < l.length
  · have hlt' : (k : Int) < l.length := by omega
    simp (config := {implicitDefEqProofs := false, maxDischargeDepth := 20}) (disch := first | omega | (simp only [lenE]; done) | (simp only [lenE]; omega) | rfl | (simp only [lenE, markR_len]; done) | (simp only [lenE, markR_len]; omega)) only [runE, mapE, listE, initT_5, initT_6, initT_7, initT_8, resV, oneV, binA, unA, reduceCtorEq, Nat.reduceEqDiff, Nat.reduceAdd, Nat.reduceLT, Nat.reduceLeDiff, Nat.reduceMul, Nat.reduceSub, ↓reduceIte, decide_true, decide_false, Bool.true_eq_false, Bool.false_eq_true, Bool.not_true, Bool.not_false, if_true, if_false, and_true, true_and, memE, celE, w64, Nat.zero_add, Nat.add_zero, Nat.mul_one, putL, and_self, ldn, t0, t1, t5, tm, e1, e3 k hlt, e4 k hlt, d3 k hlt, d4 k hlt, hlt', bne_self_eq_false]
    exact ⟨⟨k + 1, by omega, by simp⟩, by simp [intOf]; omega⟩
  · have hlt' : ¬ ((k : Int) < l.length) := by omega
    simp (config := {implicitDefEqProofs := false, maxDischargeDepth := 20}) (disch := first | omega | (simp only [lenE]; done) | (simp only [lenE]; omega) | rfl | (simp only [lenE, markR_len]; done) | (simp only [lenE, markR_len]; omega)) only [runE, mapE, listE, initT_5, initT_6, initT_7, initT_8, resV, oneV, binA, unA, reduceCtorEq, Nat.reduceEqDiff, Nat.reduceAdd, Nat.reduceLT, Nat.reduceLeDiff, Nat.reduceMul, Nat.reduceSub, ↓reduceIte, decide_true, decide_false, Bool.true_eq_false, Bool.false_eq_true, Bool.not_true, Bool.not_false, if_true, if_false, and_true, true_and, memE, celE, w64, Nat.zero_add, Nat.add_zero, Nat.mul_one, putL, and_self, ldn, t0, t1, t5, tm, e1, hlt']
    exact newQ_nil ⟨rfl, rfl⟩
theorem appBn {M : Mem} {id : Nat} {e : TypeId} {cs ys : List Value} {u : Value} (h : M[id]? = some ⟨.own, e, cs⟩) (hs : slR M 1 u = some ys) (hu : lenOfA u = ys.length) (ho : onesB ys = true) (hb : cs.length + ys.length ≤ 1048576) {n : Nat} (hn : n = cs.length) :
    appP M e 1 1 (.slice (some ⟨id, 0, none⟩) n 1) u = some (.slice (some ⟨M.length, 0, none⟩) (n + ys.length) 1, M.set id deadB ++ [⟨.own, e, cs ++ ys⟩]) := by
  subst hn
  unfold appP
  rw [hs]
  simp only [ho, if_true, appA, hu]
  rw [h]
  simp only [Nat.mul_one, true_and]
  rw [if_pos (by omega)]
theorem onesB_bytes (l : List Int) : onesB (l.map (Value.int .u8)) = true := by
  unfold onesB
  rw [List.all_eq_true]
  intro x hx
  obtain ⟨y, _, rfl⟩ := List.mem_map.1 hx
  rfl
theorem vCut_rc (m : Mem) (cb fl k : Nat) (l : List Int) (h : BytesA m cb l) (hk : 1 ≤ k) (hk2 : k ≤ 200) :
    RC Try.prog 33 [.slice (some ⟨cb, 0, none⟩) l.length fl, .int .i64 k] m fun r new => NoRo new ∧ ∃ (i : Nat) (l2 : List Int), r = .slice (some ⟨m.length + i, 0, none⟩) l2.length 1 ∧ new[i]? = some ⟨.own, 5, l2.map (Value.int .u8)⟩ ∧ (∀ x ∈ l2, 0 ≤ x ∧ x ≤ 255) ∧ l2.length ≤ 65536 := by
  have hro := h.ro
  have hlt := (List.getElem?_eq_some_iff.1 hro).1
  have hf := h.few
  -- what is done with the place from which is cut
  have rest : ∀ j : Nat, j ≤ l.length → j ≤ 200 → (j = k ∨ j = l.length) → ∃ M2 : Mem, ∃ M3 : Mem,
      slcA 1 (.slice (some ⟨cb, 0, none⟩) l.length fl) (some (.int .i64 (j : Int))) none = some (.slice (some ⟨cb, j, none⟩) (l.length - j) 0) ∧
      appP (roM m ++ [⟨.own, 5, []⟩]) 5 1 1 (.slice (some ⟨m.length, 0, none⟩) 0 1) (.slice (some ⟨cb, j, none⟩) (l.length - j) 0) = some (.slice (some ⟨m.length + 1, 0, none⟩) (l.length - j) 1, M2) ∧
      M2.length = m.length + 2 ∧
      appP (M2 ++ [⟨.own, 5, [.int .u8 (j : Int)]⟩]) 5 1 1 (.slice (some ⟨m.length + 1, 0, none⟩) (l.length - j) 1) (.slice (some ⟨M2.length, 0, none⟩) 1 1) = some (.slice (some ⟨m.length + 3, 0, none⟩) (l.length - j + 1) 1, M3) ∧
      Ext m M3 ∧ M3[m.length + 3]? = some ⟨.own, 5, (l.drop j ++ [(j : Int)]).map (Value.int .u8)⟩ := by
    intro j hj hj2 hjk
    have e1 : slR (roM m ++ [⟨.own, 5, []⟩]) 1 (.slice (some ⟨cb, j, none⟩) (l.length - j) 0) = some ((l.drop j).map (Value.int .u8)) := by
      simp only [slR, rdl, Nat.mul_one]
      rw [List.getElem?_append_left hlt, hro]
      have : j + (l.length - j) ≤ l.length := by omega
      simp only [this, if_true, List.length_map, List.map_drop]
      rw [if_neg (by simp)]
      congr 1
      rw [List.take_of_length_le (by simp)]
    have e2 : (roM m ++ [(⟨.own, 5, []⟩ : Blk)])[m.length]? = some ⟨.own, 5, []⟩ := by
      rw [List.getElem?_append_right (by rw [roM_len]; omega), roM_len]; simp
    have a1 := appBn (e := 5) e2 e1 (by simp [lenOfA]) (onesB_bytes _) (by simp; omega) (n := 0) rfl
    have hl1 : (roM m ++ [(⟨.own, 5, []⟩ : Blk)]).length = m.length + 1 := by simp [roM_len]
    rw [hl1] at a1
    have hdl : ((l.drop j).map (Value.int .u8)).length = l.length - j := by simp
    rw [hdl] at a1
    obtain ⟨M2, hM2⟩ : ∃ M2, M2 = (roM m ++ [(⟨.own, 5, []⟩ : Blk)]).set m.length deadB ++ [⟨.own, 5, [] ++ (l.drop j).map (Value.int .u8)⟩] := ⟨_, rfl⟩
    have hM2l : M2.length = m.length + 2 := by rw [hM2]; simp [roM_len]
    have x2 : Ext m M2 := by rw [hM2]; exact (((Ext.refl m).one _ _).dead (Nat.le_refl _)).one _ _
    have g2 : M2[m.length + 1]? = some ⟨.own, 5, (l.drop j).map (Value.int .u8)⟩ := by
      rw [hM2, List.getElem?_append_right (by simp [roM_len])]; simp [roM_len]
    have g3 : (M2 ++ [(⟨.own, 5, [.int .u8 (j : Int)]⟩ : Blk)])[m.length + 1]? = some ⟨.own, 5, (l.drop j).map (Value.int .u8)⟩ := by
      rw [List.getElem?_append_left (by omega)]; exact g2
    have e3 : slR (M2 ++ [(⟨.own, 5, [.int .u8 (j : Int)]⟩ : Blk)]) 1 (.slice (some ⟨M2.length, 0, none⟩) 1 1) = some [.int .u8 (j : Int)] := by
      simp [slR, rdl]
    have a2 := appBn (e := 5) g3 e3 (by simp [lenOfA]) (by rfl) (by simp; omega) (n := l.length - j) (by simp)
    have hl3 : (M2 ++ [(⟨.own, 5, [.int .u8 (j : Int)]⟩ : Blk)]).length = m.length + 3 := by simp; omega
    rw [hl3] at a2
    refine ⟨M2, _, ?_, by rw [a1, hM2]; simp, hM2l, a2, ?_, ?_⟩
    · have h1 : (0 : Int) ≤ j := by omega
      simp [slcA, boundA, hj]
    · exact ((x2.one _ _).dead (by omega)).one _ _
    · rw [List.getElem?_append_right (by simp; omega)]
      simp [hM2l]
  have fin : ∀ (j : Nat) (M3 : Mem), j ≤ l.length → j ≤ 200 → (j = k ∨ j = l.length) → Ext m M3 → M3[m.length + 3]? = some ⟨.own, 5, (l.drop j ++ [(j : Int)]).map (Value.int .u8)⟩ →
      newQ m (fun r new => NoRo new ∧ ∃ (i : Nat) (l2 : List Int), r = .slice (some ⟨m.length + i, 0, none⟩) l2.length 1 ∧ new[i]? = some ⟨.own, 5, l2.map (Value.int .u8)⟩ ∧ (∀ x ∈ l2, 0 ≤ x ∧ x ≤ 255) ∧ l2.length ≤ 65536) (.slice (some ⟨m.length + 3, 0, none⟩) (l.length - j + 1) 1) M3 := by
    intro j M3 hj hj2 hjk hx hg
    obtain ⟨n0, rfl, h0⟩ := hx
    refine ⟨n0, rfl, h0, h0, 3, l.drop j ++ [(j : Int)], by simp, ?_, ?_, by simp; omega⟩
    · rw [List.getElem?_append_right (by rw [roM_len]; omega), roM_len] at hg
      simpa using hg
    · intro x hx
      rcases List.mem_append.1 hx with h1 | h1
      · exact h.byte x (List.mem_of_mem_drop h1)
      · have : x = j := by simpa using h1
        omega
  refine rc_of_run mixed ok_laws_vCut (by simp) (go_start _ _ _ ?_)
  have w8 : ∀ j : Nat, j ≤ 200 → IntKind.u8.wrap (j : Int) = (j : Int) := fun j hj => by rw [IntKind.wrap_u8]; omega
  have bn : ∀ m : Mem, bslA m 5 1 0 [] [] = some (.slice (some ⟨m.length, 0, none⟩) 0 1, m ++ [⟨.own, 5, []⟩]) := fun m => rfl
  have bo : ∀ (m : Mem) (x : Int), bslA m 5 1 1 [.int .u8 0] [(0, 1, .int .u8 x)] = some (.slice (some ⟨m.length, 0, none⟩) 1 1, m ++ [⟨.own, 5, [.int .u8 x]⟩]) := fun m x => rfl
  by_cases hkl : l.length < k
  · have hkl' : (l.length : Int) < k := by omega
    obtain ⟨M2, M3, r1, r2, r3, r4, r5, r6⟩ := rest l.length (Nat.le_refl _) (by omega) (.inr rfl)
    rw [r3] at r4
    simp (config := {implicitDefEqProofs := false, maxDischargeDepth := 20}) (disch := first | omega | (simp only [lenE]; done) | (simp only [lenE]; omega) | rfl | (simp only [lenE, markR_len]; done) | (simp only [lenE, markR_len]; omega)) only [runE, mapE, listE, initT_5, initT_6, initT_7, initT_8, resV, oneV, binA, unA, reduceCtorEq, Nat.reduceEqDiff, Nat.reduceAdd, Nat.reduceLT, Nat.reduceLeDiff, Nat.reduceMul, Nat.reduceSub, ↓reduceIte, decide_true, decide_false, Bool.true_eq_false, Bool.false_eq_true, Bool.not_true, Bool.not_false, if_true, if_false, and_true, true_and, memE, celE, w64, Nat.zero_add, Nat.add_zero, Nat.mul_one, putL, and_self, ldn, c_laws_vCut, r_laws_vCut, gt_iff_lt, hkl', bn, Option.map_none, r1, r2, w8 l.length (by omega), bo, r3, r4]
    exact fin l.length M3 (Nat.le_refl _) (by omega) (.inr rfl) r5 r6
  · have hkl' : ¬ ((l.length : Int) < k) := by omega
    obtain ⟨M2, M3, r1, r2, r3, r4, r5, r6⟩ := rest k (by omega) hk2 (.inl rfl)
    rw [r3] at r4
    simp (config := {implicitDefEqProofs := false, maxDischargeDepth := 20}) (disch := first | omega | (simp only [lenE]; done) | (simp only [lenE]; omega) | rfl | (simp only [lenE, markR_len]; done) | (simp only [lenE, markR_len]; omega)) only [runE, mapE, listE, initT_5, initT_6, initT_7, initT_8, resV, oneV, binA, unA, reduceCtorEq, Nat.reduceEqDiff, Nat.reduceAdd, Nat.reduceLT, Nat.reduceLeDiff, Nat.reduceMul, Nat.reduceSub, ↓reduceIte, decide_true, decide_false, Bool.true_eq_false, Bool.false_eq_true, Bool.not_true, Bool.not_false, if_true, if_false, and_true, true_and, memE, celE, w64, Nat.zero_add, Nat.add_zero, Nat.mul_one, putL, and_self, ldn, c_laws_vCut, r_laws_vCut, gt_iff_lt, hkl', bn, Option.map_none, r1, r2, w8 k hk2, bo, r3, r4]
    exact fin k M3 (by omega) hk2 (.inl rfl) r5 r6
theorem argB {W : World} {A : Option Addr} {c : Nat} {l : List Int} (hr : Rd W W.heap.size A (l.map (Value.int .u8))) (hlc : l.length ≤ c) (hc : c ≤ maxLen) :
    ∃ p, MRel W W.heap.size [p] [⟨.ro, 5, l.map (Value.int .u8)⟩] W ∧ VR [p] (.slice (some ⟨0, 0, none⟩) l.length 0) (.slice A l.length c) := by
  have h := MRel.start W
  by_cases hl : 0 < l.length
  · obtain ⟨b, off, rfl, hb, hcell⟩ := hr (by simpa using hl)
    refine ⟨(b, off, 0), by
      have := h.addRo (e := 5) (xs := l.map (Value.int .u8)) (b := b) (o := off) (tot := 0) (fun k x hx => ⟨hb, x, hcell k x hx, by
        rw [List.getElem?_map] at hx
        cases hk : l[k]? with
        | none => rw [hk] at hx; cases hx
        | some z => rw [hk] at hx; cases hx; exact .int _ _⟩)
      simpa using this, .sl (b := b) (o := off) (tot := 0) (by simp) hlc hc (fun _ _ => by simp) (fun hf => absurd hf (by omega))⟩
  · have hl0 : l = [] := List.eq_nil_of_length_eq_zero (by omega)
    subst hl0
    exact ⟨(0, 0, 0), by
      have := h.addRo (e := 5) (xs := []) (b := 0) (o := 0) (tot := 0) (fun k x hx => by simp at hx)
      simpa using this, .sl (b := 0) (o := 0) (tot := 0) (by simp) hlc hc (fun _ hp => absurd hp (by simp)) (fun hf => absurd hf (by omega))⟩
end Go.Proofs.Ytdgfbmilbhckiaa.Ab
end
section
namespace Go.Proofs.Ytdgfbmilbhckiaa.Ab
open Go Go.RowKit
set_option linter.unusedVariables false
set_option linter.unusedSimpArgs false
set_option maxRecDepth 10000
theorem ext_of {m M' : Mem} (hl : m.length ≤ M'.length) (old : ∀ i, i < m.length → M'[i]? = (roM m)[i]?) (new : ∀ (i : Nat) (b : Blk), m.length ≤ i → M'[i]? = some b → b.kd ≠ .ro) : Ext m M' := by
  have e : M' = roM m ++ M'.drop m.length := by
    apply List.ext_getElem?
    intro i
    by_cases hi : i < m.length
    · rw [List.getElem?_append_left (by rw [roM_len]; exact hi), old i hi]
    · rw [List.getElem?_append_right (by rw [roM_len]; omega), List.getElem?_drop, roM_len, Nat.add_sub_cancel' (by omega)]
  refine ⟨M'.drop m.length, e, fun c hc => ?_⟩
  obtain ⟨j, hj, rfl⟩ := List.getElem_of_mem hc
  have hg : M'[m.length + j]? = some (M'.drop m.length)[j] := by
    rw [← List.getElem?_drop, List.getElem?_eq_getElem hj]
  exact new (m.length + j) _ (by omega) hg
theorem CurA.start2 {M : Mem} {cb fl : Nat} {l : List Int} (h : M[cb]? = some ⟨.ro, 5, l.map (Value.int .u8)⟩) (hb : ∀ x ∈ l, 0 ≤ x ∧ x ≤ 255) (hf : l.length ≤ 65536) : CurA (M ++ [⟨.own, 82, [.slice (some ⟨cb, 0, none⟩) l.length fl, .int .i64 0, .int .u64 0]⟩]) cb l M.length 0 :=
  ⟨by rw [List.getElem?_append_left (List.getElem?_eq_some_iff.1 h).1]; exact h, hb, hf, (fl, 0), by simp⟩
theorem Cw.noRo {id : Nat} {A B : Mem} {lo : Nat} (h : Cw id A B) (hA : ∀ (i : Nat) (b : Blk), lo ≤ i → A[i]? = some b → b.kd ≠ .ro) {cb a : Nat} {l : List Int} (k : CurA B cb l id a) : ∀ (i : Nat) (b : Blk), lo ≤ i → B[i]? = some b → b.kd ≠ .ro := fun i b hi hb => by
  by_cases e : i = id
  · subst e
    obtain ⟨s, h2⟩ := k.box
    rw [h2] at hb
    cases hb
    simp
  · by_cases hl : i < A.length
    · rw [h.old i e hl] at hb; exact hA i b hi hb
    · exact h.new i b (by omega) hb
def AnsR1 (m : Mem) (l : List Int) (r : Value) (new : Mem) : Prop :=
  NoRo new ∧ l.length ≤ 1048576 ∧ ∃ i, r = .slice (some ⟨m.length + i, 0, none⟩) l.length 1 ∧ new[i]? = some (rowB l)
theorem AnsR1.row {m new : Mem} {l : List Int} {r : Value} (h : AnsR1 m l r new) : ∃ id, r = .slice (some ⟨id, 0, none⟩) l.length 1 ∧ m.length ≤ id ∧ OwnR (m ++ new) id l ∧ NoRo new := by
  obtain ⟨h1, h2, i, rfl, h3⟩ := h
  exact ⟨_, rfl, by omega, OwnR.new h3 rfl, h1⟩
theorem ext_ansR1 {m M : Mem} {l : List Int} {id n : Nat} (h : Ext m M) (ho : OwnR M id l) (hid : m.length ≤ id) (hn : n = l.length) (hl : l.length ≤ 1048576) :
    newQ m (AnsR1 m l) (.slice (some ⟨id, 0, none⟩) n 1) M := by
  subst hn
  obtain ⟨n0, rfl, h0⟩ := h
  unfold OwnR at ho
  rw [List.getElem?_append_right (by rw [roM_len]; exact hid), roM_len] at ho
  exact ⟨n0, rfl, h0, h0, hl, id - m.length, by rw [Nat.add_sub_cancel' hid], ho⟩
theorem l2Bits1_rc (m : Mem) (n c : Nat) (hn : n ≤ 8) (hc : c ≤ 256) :
    RC Try.prog 60 [.int .i64 n, .int .i64 c] m (AnsR1 m (bitsL c n)) := by
  refine rc_of_run mixed ok_spec_l2Bits (by simp) (go_start _ _ _ ?_)
  simp (config := {implicitDefEqProofs := false, maxDischargeDepth := 20}) (disch := first | omega | (simp only [lenE]; done) | (simp only [lenE]; omega) | rfl | (simp only [lenE, markR_len]; done) | (simp only [lenE, markR_len]; omega)) only [runE, mapE, listE, initT_5, initT_6, initT_7, initT_8, resV, oneV, binA, unA, reduceCtorEq, Nat.reduceEqDiff, Nat.reduceAdd, Nat.reduceLT, Nat.reduceLeDiff, Nat.reduceMul, Nat.reduceSub, ↓reduceIte, decide_true, decide_false, Bool.true_eq_false, Bool.false_eq_true, Bool.not_true, Bool.not_false, if_true, if_false, and_true, true_and, memE, celE, w64, Nat.zero_add, Nat.add_zero, Nat.mul_one, putL, and_self, ldn, c_spec_l2Bits, r_spec_l2Bits, bsl_none]
  refine loop_inv mixed (fun s => ∃ (x : Nat) (M : Mem) (id : Nat), x ≤ n ∧ s.t 0 = .int .i64 n ∧ s.t 1 = .int .i64 c ∧ s.t 5 = .slice (some ⟨id, 0, none⟩) (bitsL c x).length 1 ∧ s.t 6 = .int .i64 x ∧ s.m = M ∧ Ext m M ∧ OwnR M id (bitsL c x) ∧ m.length ≤ id) (fun s => n - (intOf (s.t 6)).toNat)
    ⟨0, _, m.length, by omega, rfl, rfl, by simp only [put_t, put_t', put_m, putT_t, putT_t', putT_m, init_t, init_m, initT_0, initT_1, initT_2, initT_3, initT_4, initT_5, initT_6, initT_7, initT_8, Nat.reduceEqDiff, ↓reduceIte]; rfl, rfl, rfl, (Ext.refl m).one _ _, OwnR.end' (l := []) (by simp [roM_len]), Nat.le_refl _⟩ ?_
  rintro s ⟨x, M, id, hk, t0, t1, t5, t6, tm, hx, oM, lid⟩
  by_cases hlt : x < n
  · have hlt' : (x : Int) < n := by omega
    have hx0 : ¬ ((x : Int) < 0) := by omega
    have hd : c / 2 ^ x ≤ 1000 := Nat.le_trans (Nat.div_le_self _ _) (by omega)
    have aw := and1w (c / 2 ^ x) hd
    have bl := bitsL_len c x
    by_cases hb : c / 2 ^ x % 2 = 1
    · have hb' : (((c / 2 ^ x % 2 : Nat) : Int) == 1) = true := by rw [hb]; rfl
      simp (config := {implicitDefEqProofs := false, maxDischargeDepth := 20}) (disch := first | omega | (simp only [lenE]; done) | (simp only [lenE]; omega) | rfl | (simp only [lenE, markR_len]; done) | (simp only [lenE, markR_len]; omega)) only [runE, mapE, listE, initT_5, initT_6, initT_7, initT_8, resV, oneV, binA, unA, reduceCtorEq, Nat.reduceEqDiff, Nat.reduceAdd, Nat.reduceLT, Nat.reduceLeDiff, Nat.reduceMul, Nat.reduceSub, ↓reduceIte, decide_true, decide_false, Bool.true_eq_false, Bool.false_eq_true, Bool.not_true, Bool.not_false, if_true, if_false, and_true, true_and, memE, celE, w64, Nat.zero_add, Nat.add_zero, Nat.mul_one, putL, and_self, ldn, t0, t1, t5, t6, tm, hlt', hx0, shr_code (c := c) (show x ≤ 63 by omega), aw, hb', bsl_one, app_gen oM (by omega)]
      refine ⟨⟨x + 1, _, M.length + 1, by omega, by rw [bitsL, if_pos hb]; simp, by simp, rfl, ((hx.dead lid).one _ _).one _ _, ?_, by have := hx.len; omega⟩, by simp [intOf]; omega⟩
      rw [bitsL, if_pos hb]
      have := OwnR.at_end (M.set id deadB ++ [⟨.own, 3, [.int .i64 (x : Int)]⟩]) (bitsL c x ++ [(x : Int)])
      simpa using this
    · have hb' : (((c / 2 ^ x % 2 : Nat) : Int) == 1) = false := by
        have : c / 2 ^ x % 2 = 0 := by omega
        rw [this]; rfl
      simp (config := {implicitDefEqProofs := false, maxDischargeDepth := 20}) (disch := first | omega | (simp only [lenE]; done) | (simp only [lenE]; omega) | rfl | (simp only [lenE, markR_len]; done) | (simp only [lenE, markR_len]; omega)) only [runE, mapE, listE, initT_5, initT_6, initT_7, initT_8, resV, oneV, binA, unA, reduceCtorEq, Nat.reduceEqDiff, Nat.reduceAdd, Nat.reduceLT, Nat.reduceLeDiff, Nat.reduceMul, Nat.reduceSub, ↓reduceIte, decide_true, decide_false, Bool.true_eq_false, Bool.false_eq_true, Bool.not_true, Bool.not_false, if_true, if_false, and_true, true_and, memE, celE, w64, Nat.zero_add, Nat.add_zero, Nat.mul_one, putL, and_self, ldn, t0, t1, t5, t6, tm, hlt', hx0, shr_code (c := c) (show x ≤ 63 by omega), aw, hb']
      exact ⟨⟨x + 1, M, id, by omega, by rw [bitsL, if_neg hb], by simp, rfl, hx, by rw [bitsL, if_neg hb]; exact oM, lid⟩, by simp [intOf]; omega⟩
  · have hlt' : ¬ ((x : Int) < n) := by omega
    have e : x = n := by omega
    subst e
    have := bitsL_len c x
    simp (config := {implicitDefEqProofs := false, maxDischargeDepth := 20}) (disch := first | omega | (simp only [lenE]; done) | (simp only [lenE]; omega) | rfl | (simp only [lenE, markR_len]; done) | (simp only [lenE, markR_len]; omega)) only [runE, mapE, listE, initT_5, initT_6, initT_7, initT_8, resV, oneV, binA, unA, reduceCtorEq, Nat.reduceEqDiff, Nat.reduceAdd, Nat.reduceLT, Nat.reduceLeDiff, Nat.reduceMul, Nat.reduceSub, ↓reduceIte, decide_true, decide_false, Bool.true_eq_false, Bool.false_eq_true, Bool.not_true, Bool.not_false, if_true, if_false, and_true, true_and, memE, celE, w64, Nat.zero_add, Nat.add_zero, Nat.mul_one, putL, and_self, ldn, t0, t1, t5, t6, tm, hlt']
    exact ext_ansR1 hx oM (by omega) rfl (by omega)
theorem b3f (m : Mem) : bslA m 3 1 3 [.int .i64 0, .int .i64 0, .int .i64 0] [(0, 1, .int .i64 (-1)), (1, 1, .int .i64 0), (2, 1, .int .i64 8)] = some (.slice (some ⟨m.length, 0, none⟩) 3 1, m ++ [rowB [-1, 0, 8]]) := rfl
end Go.Proofs.Ytdgfbmilbhckiaa.Ab
end
