/- Draws: what is kept beside the cursor; a row that grows while numbers are drawn. -/
import Derived.Test.YtfjpickejgbmaaaAbCur
import Derived.Test.YtfjpickejgbmaaaAbBasis
namespace Go.Proofs.Ytfjpickejgbmaaa.Ab
open Go Go.RowKit
set_option linter.unusedVariables false
set_option linter.unusedSimpArgs false

theorem l1Least_rcK (m : Mem) (a b : Int) : RC Try.prog 48 [.int .i64 a, .int .i64 b] m fun r new => r = .int .i64 (min a b) ∧ new = [] := by
  refine rc_of_run mixed ok_spec_l1Least (by simp) (go_start _ _ _ ?_)
  by_cases h : a < b
  · simp (config := {implicitDefEqProofs := false, maxDischargeDepth := 20}) (disch := first | omega | (simp only [lenE]; done) | (simp only [lenE]; omega) | rfl | (simp only [lenE, markR_len]; done) | (simp only [lenE, markR_len]; omega)) only [runE, mapE, listE, initT_5, initT_6, initT_7, initT_8, resV, oneV, binA, unA, reduceCtorEq, Nat.reduceEqDiff, Nat.reduceAdd, Nat.reduceLT, Nat.reduceLeDiff, Nat.reduceMul, Nat.reduceSub, ↓reduceIte, decide_true, decide_false, Bool.true_eq_false, Bool.false_eq_true, Bool.not_true, Bool.not_false, if_true, if_false, and_true, true_and, memE, celE, w64, Nat.zero_add, Nat.add_zero, Nat.mul_one, putL, and_self, ldn, c_spec_l1Least, r_spec_l1Least, h]
    exact newQ_nil ⟨by congr 1; omega, rfl⟩
  · simp (config := {implicitDefEqProofs := false, maxDischargeDepth := 20}) (disch := first | omega | (simp only [lenE]; done) | (simp only [lenE]; omega) | rfl | (simp only [lenE, markR_len]; done) | (simp only [lenE, markR_len]; omega)) only [runE, mapE, listE, initT_5, initT_6, initT_7, initT_8, resV, oneV, binA, unA, reduceCtorEq, Nat.reduceEqDiff, Nat.reduceAdd, Nat.reduceLT, Nat.reduceLeDiff, Nat.reduceMul, Nat.reduceSub, ↓reduceIte, decide_true, decide_false, Bool.true_eq_false, Bool.false_eq_true, Bool.not_true, Bool.not_false, if_true, if_false, and_true, true_and, memE, celE, w64, Nat.zero_add, Nat.add_zero, Nat.mul_one, putL, and_self, ldn, c_spec_l1Least, r_spec_l1Least, h]
    exact newQ_nil ⟨by congr 1; omega, rfl⟩
theorem CurA.cw {M M' : Mem} {cb id a : Nat} {l : List Int} (h : CurA M cb l id a) (hlen : M.length ≤ M'.length) (hl : ∀ i, i < M.length → M'[i]? = M[i]?) : CurA M' cb l id a := by
  obtain ⟨seed, hb⟩ := h.box
  have h1 := (List.getElem?_eq_some_iff.1 h.code).1
  exact ⟨(hl cb h1).trans h.code, h.byte, h.few, seed, (hl id h.lt).trans hb⟩
theorem CurA.ext {M : Mem} {cb id a : Nat} {l : List Int} (h : CurA M cb l id a) (new : Mem) : CurA (M ++ new) cb l id a :=
  h.cw (by simp) fun i hi => List.getElem?_append_left hi
theorem Cw.ext {id : Nat} {M M' : Mem} (h : Cw id M M') {new : Mem} (hn : NoRo new) : Cw id M (M' ++ new) :=
  ⟨by have := h.len; simp; omega, fun i h1 h2 => by rw [List.getElem?_append_left (by have := h.len; omega)]; exact h.old i h1 h2, fun i b h1 h2 => by
    by_cases hi : i < M'.length
    · rw [List.getElem?_append_left hi] at h2; exact h.new i b h1 h2
    · rw [List.getElem?_append_right (by omega)] at h2; exact hn b (List.mem_of_getElem? h2)⟩
theorem Cw.pre {id : Nat} {M new M' : Mem} (h : Cw id (M ++ new) M') (hn : NoRo new) (hid : id < M.length) : Cw id M M' :=
  ⟨by have := h.len; simp at this; omega, fun i h1 h2 => (h.old i h1 (by simp; omega)).trans (List.getElem?_append_left h2), fun i b h1 h2 => by
    by_cases hi : (M ++ new).length ≤ i
    · exact h.new i b hi h2
    · rw [h.old i (by omega) (by omega), List.getElem?_append_right h1] at h2
      exact hn b (List.mem_of_getElem? h2)⟩
/-- One of a new list's numbers. -/
theorem among_new (M : Mem) (cb id a : Nat) (l : List Int) (xs : List Int) {i n : Nat} (h : CurA M cb l id a) (ha : a ≤ 999999998) (hi : i = M.length) (hn : n = xs.length) (h1 : 1 ≤ xs.length) (h2 : xs.length ≤ 1000) :
    AC Try.prog 44 [.pointer (some ⟨id, 0, none⟩), .slice (some ⟨i, 0, none⟩) n 1] (M ++ [rowB xs]) fun r M' => ∃ x ∈ xs, r = .int .i64 x ∧ Cw id M M' ∧ ∃ a', a' ≤ a + 2 ∧ CurA M' cb l id a' := by
  subst hi hn
  have hid := h.lt
  have ho : OwnR (M ++ [rowB xs]) M.length xs := by unfold OwnR; simp
  refine (among_ac (M ++ [rowB xs]) cb id a l _ xs (h.ext _) ha (ho.ints (by omega) 1) (fun M' w => (w.own ho (by omega)).ints (by omega) 1) h1 h2).mono ?_
  rintro r M' ⟨x, hx, hr, w, k⟩
  exact ⟨x, hx, hr, w.pre (noRo_own noRo_nil) hid, k⟩

theorem CurA.put {M : Mem} {cb id a r : Nat} {l : List Int} (h : CurA M cb l id a) (hr : r ≠ cb) (hi : r ≠ id) (b : Blk) : CurA (M.set r b) cb l id a := by
  obtain ⟨s, hb⟩ := h.box
  exact ⟨by rw [List.getElem?_set_ne hr]; exact h.code, h.byte, h.few, s, by rw [List.getElem?_set_ne hi]; exact hb⟩
theorem Cw.put {id r : Nat} {M M' : Mem} (h : Cw id M M') (hr : M.length ≤ r) {b : Blk} (hb : b.kd ≠ .ro) : Cw id M (M'.set r b) := by
  refine ⟨by simpa using h.len, fun i h1 h2 => by rw [List.getElem?_set_ne (by omega)]; exact h.old i h1 h2, fun i c h1 h2 => ?_⟩
  by_cases e : r = i
  · subst e
    rcases at_set h2 with ⟨hne, _⟩ | ⟨_, hc, _⟩
    · exact absurd rfl hne
    · rw [← hc]; exact hb
  · rw [List.getElem?_set_ne e] at h2; exact h.new i c h1 h2
theorem CurA.cbne {M : Mem} {cb id a : Nat} {l : List Int} (h : CurA M cb l id a) : cb ≠ id := fun e => by
  obtain ⟨s, hb⟩ := h.box
  have := h.code
  rw [e, hb] at this
  cases this
theorem CurA.cblt {M : Mem} {cb id a : Nat} {l : List Int} (h : CurA M cb l id a) : cb < M.length := (List.getElem?_eq_some_iff.1 h.code).1
/-- A row of its own, behind what was there before the draws. -/
structure Dr (M M' : Mem) (cb id a r : Nat) (l L : List Int) : Prop where
  hid : id < M.length
  hcb : cb < M.length
  cw : Cw id M M'
  cur : CurA M' cb l id a
  own : OwnR M' r L
  ge : M.length ≤ r
section
variable {M M' M2 : Mem} {cb id a a2 r : Nat} {l L : List Int}
theorem Dr.draw (h : Dr M M' cb id a r l L) (w : Cw id M' M2) (k : CurA M2 cb l id a2) : Dr M M2 cb id a2 r l L :=
  ⟨h.hid, h.hcb, Cw.trans h.hid h.cw w, k, w.own h.own (by have := h.hid; have := h.ge; omega), h.ge⟩
theorem Dr.ext (h : Dr M M' cb id a r l L) {new : Mem} (hn : NoRo new) : Dr M (M' ++ new) cb id a r l L :=
  ⟨h.hid, h.hcb, h.cw.ext hn, h.cur.ext new, h.own.ext new, h.ge⟩
theorem Dr.new (hid : id < M.length) (hcb : cb < M.length) (w : Cw id M M') (k : CurA M' cb l id a) {r : Nat} (hr : r = M'.length) (L : List Int) : Dr M (M' ++ [rowB L]) cb id a r l L := by
  subst hr
  exact ⟨hid, hcb, w.ext (noRo_own noRo_nil), k.ext _, by unfold OwnR; simp, w.len⟩
theorem Dr.app (h : Dr M M' cb id a r l L) (x : Int) (hl : L.length ≤ 1000) {i : Nat} (hi : i = M'.length) : ∃ M2,
    appP (M' ++ [⟨.own, 3, [.int .i64 x]⟩]) 3 1 8 (.slice (some ⟨r, 0, none⟩) L.length 1) (.slice (some ⟨i, 0, none⟩) 1 1) = some (.slice (some ⟨M'.length + 1, 0, none⟩) (L.length + 1) 1, M2) ∧
    Dr M M2 cb id a (M'.length + 1) l (L ++ [x]) := by
  subst hi
  have hge := h.ge
  have hlt := h.hid
  have hlc := h.hcb
  refine ⟨_, app_gen h.own (by omega), ?_⟩
  have w : Cw id M (M'.set r deadB ++ [⟨.own, 3, [.int .i64 x]⟩]) := (h.cw.put hge (by simp [deadB])).ext (noRo_own noRo_nil)
  have k : CurA (M'.set r deadB ++ [⟨.own, 3, [.int .i64 x]⟩]) cb l id a := (h.cur.put (by omega) (by omega) deadB).ext _
  have := Dr.new hlt hlc w k (r := M'.length + 1) (by simp) (L ++ [x])
  simpa [rowB] using this
theorem Dr.st (h : Dr M M' cb id a r l L) {j : Nat} (hj : j < L.length) (x : Int) : stA M' r j [.int .i64 x] = some (M'.set r (rowB (L.set j x))) ∧ Dr M (M'.set r (rowB (L.set j x))) cb id a r l (L.set j x) := by
  have hge := h.ge
  have hlt := h.hid
  have hlc := h.hcb
  exact ⟨h.own.st hj, h.hid, h.hcb, h.cw.put hge (by simp), h.cur.put (by omega) (by omega) _, h.own.set_self, hge⟩
end
/-- What a draw function leaves: all that came in, only to be read, and new blocks. -/
theorem Cw.toExt {m M' : Mem} {b : Blk} {cb a : Nat} {l : List Int} (h : Cw m.length (roM m ++ [b]) M') (k : CurA M' cb l m.length a) : Ext m M' := by
  have hl := h.len
  simp only [List.length_append, List.length_cons, List.length_nil, roM_len] at hl
  have e : M' = roM m ++ M'.drop m.length := by
    apply List.ext_getElem?
    intro i
    by_cases hi : i < m.length
    · rw [List.getElem?_append_left (by rw [roM_len]; exact hi), h.old i (by omega) (by simp [roM_len]; omega), List.getElem?_append_left (by rw [roM_len]; exact hi)]
    · rw [List.getElem?_append_right (by rw [roM_len]; omega), List.getElem?_drop, roM_len, Nat.add_sub_cancel' (by omega)]
  refine ⟨M'.drop m.length, e, fun c hc => ?_⟩
  obtain ⟨j, hj, rfl⟩ := List.getElem_of_mem hc
  have hg : M'[m.length + j]? = some (M'.drop m.length)[j] := by
    rw [← List.getElem?_drop, List.getElem?_eq_getElem hj]
  by_cases e0 : j = 0
  · subst e0
    obtain ⟨s, hb⟩ := k.box
    rw [Nat.add_zero, hb] at hg
    rw [← Option.some.inj hg]; simp
  · exact h.new (m.length + j) _ (by simp [roM_len]; omega) hg
theorem bsl_list {m : Mem} {z xs : List Value} {ps : List (Nat × Nat × Value)} {n : Nat} (h : fillA z ps = some xs) : bslA m 3 1 n z ps = some (.slice (some ⟨m.length, 0, none⟩) n 1, m ++ [⟨.own, 3, xs⟩]) := by
  unfold bslA; rw [h]
theorem draw_row' {m M' : Mem} {r : Nat} {L : List Int} (hx : Ext m M') (ho : OwnR M' r L) (hge : m.length ≤ r) : ∃ n0 i, M' = roM m ++ n0 ∧ NoRo n0 ∧ r = m.length + i ∧ n0[i]? = some (rowB L) := by
  obtain ⟨n0, rfl, h0⟩ := hx
  refine ⟨n0, r - m.length, rfl, h0, by omega, ?_⟩
  unfold OwnR at ho
  rwa [List.getElem?_append_right (by rw [roM_len]; exact hge), roM_len] at ho
end Go.Proofs.Ytfjpickejgbmaaa.Ab
