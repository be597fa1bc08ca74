/- What the law needs of the texts that it rests on. -/
import Derived.Test.YtibkaclkaigflaaShFnHorizons0
section
namespace Go.Proofs.Ytibkaclkaigflaa.Ab
open Go Go.RowKit
set_option linter.unusedVariables false
set_option linter.unusedSimpArgs false
theorem app_genK {M : Mem} {l : List Int} {x : Int} {id : Nat} (h : OwnR M id l) (hb : l.length ≤ 1048576) :
    appP (M ++ [⟨.own, 3, [.int .i64 x]⟩]) 3 1 8 (.slice (some ⟨id, 0, none⟩) l.length 1) (.slice (some ⟨M.length, 0, none⟩) 1 1) =
      some (.slice (some ⟨M.length + 1, 0, none⟩) (l.length + 1) 1, M.set id deadB ++ [⟨.own, 3, [.int .i64 x]⟩] ++ [⟨.own, 3, (l ++ [x]).map (Value.int .i64)⟩]) := by
  have hl := h.lt
  have e1 : slR (M ++ [⟨.own, 3, [.int .i64 x]⟩]) 1 (.slice (some ⟨M.length, 0, none⟩) 1 1) = some [.int .i64 x] := by
    simp only [slR, rdl, Nat.mul_one]
    simp
  unfold appP
  rw [e1]
  simp only [onesB_int, onesB_nil, if_true, appA, lenOfA]
  rw [List.getElem?_append_left hl, show M[id]? = some (rowB l) from h]
  simp only [List.length_map, Nat.mul_one, true_and]
  rw [if_pos (by omega), List.set_append_left _ _ hl]
  simp
def Gr (M : Mem) (v : Value) (l : List Int) (r : Nat) : Prop := (v = .slice none 0 0 ∧ l = []) ∨ (v = .slice (some ⟨r, 0, none⟩) l.length 1 ∧ l ≠ [] ∧ OwnR M r l)
theorem Gr.ints {M : Mem} {v : Value} {l : List Int} {r : Nat} (h : Gr M v l r) (hl : l.length ≤ 1000) : IntsA M v l := by
  rcases h with ⟨rfl, rfl⟩ | ⟨rfl, _, ho⟩
  · exact IntsA.nil M
  · exact ho.ints (by omega) 1
def up4 {α : Type} (f : Nat → α) (o : Nat) (x : α) : Nat → α := fun i => if i = o then x else f i
structure KC (M : Mem) (b lo : Nat) (vs : Nat → Value) (ls : Nat → List Int) (rs : Nat → Nat) : Prop where
  box : M[b]? = some ⟨.own, 26, [vs 0, vs 1, vs 2, vs 3]⟩
  lob : lo ≤ b
  row : ∀ i, i < 4 → Gr M (vs i) (ls i) (rs i)
  ge : ∀ i, i < 4 → ls i ≠ [] → lo ≤ rs i ∧ rs i ≠ b
  ne : ∀ i j, i < 4 → j < 4 → i ≠ j → ls i ≠ [] → ls j ≠ [] → rs i ≠ rs j
theorem Gr.app {M : Mem} {v : Value} {l : List Int} {r : Nat} (h : Gr M v l r) (hl : l.length ≤ 1000) (x : Int) : ∃ M1, appP (M ++ [⟨.own, 3, [.int .i64 x]⟩]) 3 1 8 v (.slice (some ⟨M.length, 0, none⟩) 1 1) = some (.slice (some ⟨M.length + 1, 0, none⟩) (l.length + 1) 1, M1) ∧
    M1.length = M.length + 2 ∧ OwnR M1 (M.length + 1) (l ++ [x]) ∧ (∀ i, i < M.length → (l ≠ [] → i ≠ r) → M1[i]? = M[i]?) ∧ ∀ (i : Nat) (b : Blk), (i = r ∧ l ≠ [] ∨ M.length ≤ i) → M1[i]? = some b → b.kd ≠ .ro := by
  rcases h with ⟨rfl, rfl⟩ | ⟨rfl, hne, ho⟩
  · refine ⟨M ++ [⟨.own, 3, [.int .i64 x]⟩] ++ [⟨.own, 3, [.int .i64 x]⟩], ?_, by simp, ?_, ?_, ?_⟩
    · have e1 : slR (M ++ [⟨.own, 3, [.int .i64 x]⟩]) 1 (.slice (some ⟨M.length, 0, none⟩) 1 1) = some [.int .i64 x] := by
        simp only [slR, rdl, Nat.mul_one]
        simp
      unfold appP
      rw [e1]
      simp [onesB_int, onesB_nil, appA, lenOfA]
    · unfold OwnR
      rw [List.getElem?_append_right (by simp)]
      simp
    · intro i hi _
      rw [List.getElem?_append_left (by simp; omega), List.getElem?_append_left hi]
    · intro i b hi hb
      have hi : M.length ≤ i := by
        rcases hi with ⟨_, h⟩ | h
        · exact absurd rfl h
        · exact h
      rw [List.append_assoc, List.getElem?_append_right hi] at hb
      match i - M.length, hb with
      | 0, hb => simp at hb; rw [← hb]; simp
      | 1, hb => simp at hb; rw [← hb]; simp
  · refine ⟨_, app_genK ho (by omega), by simp, ?_, ?_, ?_⟩
    · unfold OwnR
      rw [List.getElem?_append_right (by simp)]
      simp
    · intro i hi hir
      rw [List.getElem?_append_left (by simp; omega), List.getElem?_append_left (by simpa using hi), List.getElem?_set_ne (Ne.symm (hir hne))]
    · intro i b hi hb
      by_cases hlt : i < M.length
      · have hir : i = r := by
          rcases hi with ⟨h, _⟩ | h
          · exact h
          · omega
        subst hir
        rw [List.getElem?_append_left (by simp; omega), List.getElem?_append_left (by simpa using hlt), List.getElem?_set_self hlt] at hb
        cases hb
        simp [deadB]
      · rw [List.append_assoc, List.getElem?_append_right (by simp; omega)] at hb
        simp only [List.length_set] at hb
        match i - M.length, hb with
        | 0, hb => simp at hb; rw [← hb]; simp
        | 1, hb => simp at hb; rw [← hb]; simp
theorem KC.lt {M : Mem} {b lo : Nat} {vs : Nat → Value} {ls : Nat → List Int} {rs : Nat → Nat} (h : KC M b lo vs ls rs) {i : Nat} (hi : i < 4) (hne : ls i ≠ []) : rs i < M.length ∧ OwnR M (rs i) (ls i) := by
  rcases h.row i hi with ⟨_, h2⟩ | ⟨_, _, h3⟩
  · exact absurd h2 hne
  · exact ⟨h3.lt, h3⟩
theorem KC.app {M : Mem} {b lo : Nat} {vs : Nat → Value} {ls : Nat → List Int} {rs : Nat → Nat} (h : KC M b lo vs ls rs) {o : Nat} (ho : o < 4) (hl : (ls o).length ≤ 1000) (x : Int) : ∃ M1 M2,
    appP (M ++ [⟨.own, 3, [.int .i64 x]⟩]) 3 1 8 (vs o) (.slice (some ⟨M.length, 0, none⟩) 1 1) = some (.slice (some ⟨M.length + 1, 0, none⟩) ((ls o).length + 1) 1, M1) ∧
    stA M1 b o [.slice (some ⟨M.length + 1, 0, none⟩) ((ls o).length + 1) 1] = some M2 ∧
    KC M2 b lo (up4 vs o (.slice (some ⟨M.length + 1, 0, none⟩) ((ls o).length + 1) 1)) (up4 ls o (ls o ++ [x])) (up4 rs o (M.length + 1)) ∧ M2.length = M.length + 2 ∧ (∀ i, i < lo → M2[i]? = M[i]?) ∧
    ((∀ (i : Nat) (k : Blk), lo ≤ i → M[i]? = some k → k.kd ≠ .ro) → ∀ (i : Nat) (k : Blk), lo ≤ i → M2[i]? = some k → k.kd ≠ .ro) := by
  obtain ⟨M1, a1, a2, a3, a4, a5⟩ := (h.row o ho).app hl x
  have hb := (List.getElem?_eq_some_iff.1 h.box).1
  have hbo : ls o ≠ [] → b ≠ rs o := fun hne => Ne.symm (h.ge o ho hne).2
  have hb1 : M1[b]? = some ⟨.own, 26, [vs 0, vs 1, vs 2, vs 3]⟩ := (a4 b hb hbo).trans h.box
  obtain ⟨v', hv'⟩ : ∃ v', v' = Value.slice (some ⟨M.length + 1, 0, none⟩) ((ls o).length + 1) 1 := ⟨_, rfl⟩
  have hst : stA M1 b o [v'] = some (M1.set b ⟨.own, 26, [vs 0, vs 1, vs 2, vs 3].set o v'⟩) := stA_at hb1 (by simpa using ho) (by rw [hv']; rfl)
  rw [← hv'] at a1
  have hlo := h.lob
  rw [← hv']
  refine ⟨M1, _, a1, hst, ⟨?_, h.lob, ?_, ?_, ?_⟩, by simp [a2], ?_, ?_⟩
  · rw [List.getElem?_set_self (by omega)]
    match o, ho with
    | 0, _ => rfl
    | 1, _ => rfl
    | 2, _ => rfl
    | 3, _ => rfl
  · intro i hi
    by_cases e : i = o
    · subst e
      simp only [up4, if_true]
      refine .inr ⟨by rw [hv']; simp, by simp, ?_⟩
      unfold OwnR
      rw [List.getElem?_set_ne (by omega)]
      exact a3
    · simp only [up4, if_neg e]
      rcases h.row i hi with h1 | ⟨h1, h2, h3⟩
      · exact .inl h1
      · refine .inr ⟨h1, h2, ?_⟩
        unfold OwnR
        rw [List.getElem?_set_ne (Ne.symm (h.ge i hi h2).2), a4 (rs i) h3.lt fun hne => h.ne i o hi ho e h2 hne]
        exact h3
  · intro i hi hne
    by_cases e : i = o
    · subst e
      simp only [up4, if_true]
      omega
    · simp only [up4, if_neg e] at hne ⊢
      exact h.ge i hi hne
  · intro i j hi hj hij hne1 hne2
    by_cases e1 : i = o
    · by_cases e2 : j = o
      · omega
      · simp only [up4, if_pos e1, if_neg e2] at hne2 ⊢
        have := (h.lt hj hne2).1
        omega
    · by_cases e2 : j = o
      · simp only [up4, if_neg e1, if_pos e2] at hne1 ⊢
        have := (h.lt hi hne1).1
        omega
      · simp only [up4, if_neg e1, if_neg e2] at hne1 hne2 ⊢
        exact h.ne i j hi hj hij hne1 hne2
  · intro i hi
    rw [List.getElem?_set_ne (by omega)]
    exact a4 i (by omega) fun hne e => by have := (h.ge o ho hne).1; omega
  · intro hro i k hi hk
    by_cases e : i = b
    · subst e
      rw [List.getElem?_set_self (by omega)] at hk
      cases hk
      simp
    · rw [List.getElem?_set_ne (Ne.symm e)] at hk
      by_cases hlt : i < M.length
      · by_cases hr : i = rs o ∧ ls o ≠ []
        · exact a5 i k (.inl hr) hk
        · rw [a4 i hlt fun hne e => hr ⟨e, hne⟩] at hk
          exact hro i k hi hk
      · exact a5 i k (.inr (by omega)) hk
end Go.Proofs.Ytibkaclkaigflaa.Ab
end
section
namespace Go.Proofs.Ytibkaclkaigflaa.Ab
open Go Go.RowKit
set_option linter.unusedVariables false
set_option linter.unusedSimpArgs false
theorem KC.cw {M M' : Mem} {b lo id : Nat} {vs : Nat → Value} {ls : Nat → List Int} {rs : Nat → Nat} (h : KC M b lo vs ls rs) (w : Cw id M M') (hid : id < lo) : KC M' b lo vs ls rs := by
  have hb := (List.getElem?_eq_some_iff.1 h.box).1
  refine ⟨(w.old b (by have := h.lob; omega) hb).trans h.box, h.lob, fun i hi => ?_, h.ge, h.ne⟩
  rcases h.row i hi with h1 | ⟨h1, h3, h2⟩
  · exact .inl h1
  · have := (h.ge i hi h3).1
    exact .inr ⟨h1, h3, w.own h2 (by omega)⟩
end Go.Proofs.Ytibkaclkaigflaa.Ab
end
section
namespace Go.Proofs.Ytibkaclkaigflaa.Ab
open Go Go.RowKit
set_option linter.unusedVariables false
set_option linter.unusedSimpArgs false
theorem l1Least_rcK (m : Mem) (a b : Int) : RC Try.prog 54 [.int .i64 a, .int .i64 b] m fun r new => r = .int .i64 (min a b) ∧ new = [] := by
  refine rc_of_run mixed ok_spec_l1Least (by simp) (go_start _ _ _ ?_)
  by_cases h : a < b
  · simp (config := {implicitDefEqProofs := false, maxDischargeDepth := 20}) (disch := first | omega | (simp only [lenE]; done) | (simp only [lenE]; omega) | rfl | (simp only [lenE, markR_len]; done) | (simp only [lenE, markR_len]; omega)) only [runE, mapE, listE, initT_5, initT_6, initT_7, initT_8, resV, oneV, binA, unA, reduceCtorEq, Nat.reduceEqDiff, Nat.reduceAdd, Nat.reduceLT, Nat.reduceLeDiff, Nat.reduceMul, Nat.reduceSub, ↓reduceIte, decide_true, decide_false, Bool.true_eq_false, Bool.false_eq_true, Bool.not_true, Bool.not_false, if_true, if_false, and_true, true_and, memE, celE, w64, Nat.zero_add, Nat.add_zero, Nat.mul_one, putL, and_self, ldn, c_spec_l1Least, r_spec_l1Least, h]
    exact newQ_nil ⟨by congr 1; omega, rfl⟩
  · simp (config := {implicitDefEqProofs := false, maxDischargeDepth := 20}) (disch := first | omega | (simp only [lenE]; done) | (simp only [lenE]; omega) | rfl | (simp only [lenE, markR_len]; done) | (simp only [lenE, markR_len]; omega)) only [runE, mapE, listE, initT_5, initT_6, initT_7, initT_8, resV, oneV, binA, unA, reduceCtorEq, Nat.reduceEqDiff, Nat.reduceAdd, Nat.reduceLT, Nat.reduceLeDiff, Nat.reduceMul, Nat.reduceSub, ↓reduceIte, decide_true, decide_false, Bool.true_eq_false, Bool.false_eq_true, Bool.not_true, Bool.not_false, if_true, if_false, and_true, true_and, memE, celE, w64, Nat.zero_add, Nat.add_zero, Nat.mul_one, putL, and_self, ldn, c_spec_l1Least, r_spec_l1Least, h]
    exact newQ_nil ⟨by congr 1; omega, rfl⟩
theorem CurA.cw {M M' : Mem} {cb id a : Nat} {l : List Int} (h : CurA M cb l id a) (hlen : M.length ≤ M'.length) (hl : ∀ i, i < M.length → M'[i]? = M[i]?) : CurA M' cb l id a := by
  obtain ⟨seed, hb⟩ := h.box
  have h1 := (List.getElem?_eq_some_iff.1 h.code).1
  exact ⟨(hl cb h1).trans h.code, h.byte, h.few, seed, (hl id h.lt).trans hb⟩
theorem CurA.ext {M : Mem} {cb id a : Nat} {l : List Int} (h : CurA M cb l id a) (new : Mem) : CurA (M ++ new) cb l id a :=
  h.cw (by simp) fun i hi => List.getElem?_append_left hi
theorem Cw.ext {id : Nat} {M M' : Mem} (h : Cw id M M') {new : Mem} (hn : NoRo new) : Cw id M (M' ++ new) :=
  ⟨by have := h.len; simp; omega, fun i h1 h2 => by rw [List.getElem?_append_left (by have := h.len; omega)]; exact h.old i h1 h2, fun i b h1 h2 => by
    by_cases hi : i < M'.length
    · rw [List.getElem?_append_left hi] at h2; exact h.new i b h1 h2
    · rw [List.getElem?_append_right (by omega)] at h2; exact hn b (List.mem_of_getElem? h2)⟩
theorem Cw.pre {id : Nat} {M new M' : Mem} (h : Cw id (M ++ new) M') (hn : NoRo new) (hid : id < M.length) : Cw id M M' :=
  ⟨by have := h.len; simp at this; omega, fun i h1 h2 => (h.old i h1 (by simp; omega)).trans (List.getElem?_append_left h2), fun i b h1 h2 => by
    by_cases hi : (M ++ new).length ≤ i
    · exact h.new i b hi h2
    · rw [h.old i (by omega) (by omega), List.getElem?_append_right h1] at h2
      exact hn b (List.mem_of_getElem? h2)⟩
theorem among_new (M : Mem) (cb id a : Nat) (l : List Int) (xs : List Int) {i n : Nat} (h : CurA M cb l id a) (ha : a ≤ 999999998) (hi : i = M.length) (hn : n = xs.length) (h1 : 1 ≤ xs.length) (h2 : xs.length ≤ 1000) :
    AC Try.prog 55 [.pointer (some ⟨id, 0, none⟩), .slice (some ⟨i, 0, none⟩) n 1] (M ++ [rowB xs]) fun r M' => ∃ x ∈ xs, r = .int .i64 x ∧ Cw id M M' ∧ ∃ a', a' ≤ a + 2 ∧ CurA M' cb l id a' := by
  subst hi hn
  have hid := h.lt
  have ho : OwnR (M ++ [rowB xs]) M.length xs := by unfold OwnR; simp
  refine (among_ac (M ++ [rowB xs]) cb id a l _ xs (h.ext _) ha (ho.ints (by omega) 1) (fun M' w => (w.own ho (by omega)).ints (by omega) 1) h1 h2).mono ?_
  rintro r M' ⟨x, hx, hr, w, k⟩
  exact ⟨x, hx, hr, w.pre (noRo_own noRo_nil) hid, k⟩

theorem CurA.put {M : Mem} {cb id a r : Nat} {l : List Int} (h : CurA M cb l id a) (hr : r ≠ cb) (hi : r ≠ id) (b : Blk) : CurA (M.set r b) cb l id a := by
  obtain ⟨s, hb⟩ := h.box
  exact ⟨by rw [List.getElem?_set_ne hr]; exact h.code, h.byte, h.few, s, by rw [List.getElem?_set_ne hi]; exact hb⟩
theorem Cw.put {id r : Nat} {M M' : Mem} (h : Cw id M M') (hr : M.length ≤ r) {b : Blk} (hb : b.kd ≠ .ro) : Cw id M (M'.set r b) := by
  refine ⟨by simpa using h.len, fun i h1 h2 => by rw [List.getElem?_set_ne (by omega)]; exact h.old i h1 h2, fun i c h1 h2 => ?_⟩
  by_cases e : r = i
  · subst e
    rcases at_set h2 with ⟨hne, _⟩ | ⟨_, hc, _⟩
    · exact absurd rfl hne
    · rw [← hc]; exact hb
  · rw [List.getElem?_set_ne e] at h2; exact h.new i c h1 h2
structure Dr (M M' : Mem) (cb id a r : Nat) (l L : List Int) : Prop where
  hid : id < M.length
  hcb : cb < M.length
  cw : Cw id M M'
  cur : CurA M' cb l id a
  own : OwnR M' r L
  ge : M.length ≤ r
section
variable {M M' M2 : Mem} {cb id a a2 r : Nat} {l L : List Int}
theorem Dr.draw (h : Dr M M' cb id a r l L) (w : Cw id M' M2) (k : CurA M2 cb l id a2) : Dr M M2 cb id a2 r l L :=
  ⟨h.hid, h.hcb, Cw.trans h.hid h.cw w, k, w.own h.own (by have := h.hid; have := h.ge; omega), h.ge⟩
theorem Dr.ext (h : Dr M M' cb id a r l L) {new : Mem} (hn : NoRo new) : Dr M (M' ++ new) cb id a r l L :=
  ⟨h.hid, h.hcb, h.cw.ext hn, h.cur.ext new, h.own.ext new, h.ge⟩
theorem Dr.new (hid : id < M.length) (hcb : cb < M.length) (w : Cw id M M') (k : CurA M' cb l id a) {r : Nat} (hr : r = M'.length) (L : List Int) : Dr M (M' ++ [rowB L]) cb id a r l L := by
  subst hr
  exact ⟨hid, hcb, w.ext (noRo_own noRo_nil), k.ext _, by unfold OwnR; simp, w.len⟩
theorem Dr.app (h : Dr M M' cb id a r l L) (x : Int) (hl : L.length ≤ 1000) {i : Nat} (hi : i = M'.length) : ∃ M2,
    appP (M' ++ [⟨.own, 3, [.int .i64 x]⟩]) 3 1 8 (.slice (some ⟨r, 0, none⟩) L.length 1) (.slice (some ⟨i, 0, none⟩) 1 1) = some (.slice (some ⟨M'.length + 1, 0, none⟩) (L.length + 1) 1, M2) ∧
    Dr M M2 cb id a (M'.length + 1) l (L ++ [x]) := by
  subst hi
  have hge := h.ge
  have hlt := h.hid
  have hlc := h.hcb
  refine ⟨_, app_gen h.own (by omega), ?_⟩
  have w : Cw id M (M'.set r deadB ++ [⟨.own, 3, [.int .i64 x]⟩]) := (h.cw.put hge (by simp [deadB])).ext (noRo_own noRo_nil)
  have k : CurA (M'.set r deadB ++ [⟨.own, 3, [.int .i64 x]⟩]) cb l id a := (h.cur.put (by omega) (by omega) deadB).ext _
  have := Dr.new hlt hlc w k (r := M'.length + 1) (by simp) (L ++ [x])
  simpa [rowB] using this
theorem Dr.st (h : Dr M M' cb id a r l L) {j : Nat} (hj : j < L.length) (x : Int) : stA M' r j [.int .i64 x] = some (M'.set r (rowB (L.set j x))) ∧ Dr M (M'.set r (rowB (L.set j x))) cb id a r l (L.set j x) := by
  have hge := h.ge
  have hlt := h.hid
  have hlc := h.hcb
  exact ⟨h.own.st hj, h.hid, h.hcb, h.cw.put hge (by simp), h.cur.put (by omega) (by omega) _, h.own.set_self, hge⟩
end
end Go.Proofs.Ytibkaclkaigflaa.Ab
end
section
namespace Go.Proofs.Ytibkaclkaigflaa.Ab
open Go Go.RowKit
set_option linter.unusedVariables false
set_option linter.unusedSimpArgs false
theorem b8 (m : Mem) : bslA m 3 1 8 [.int .i64 0, .int .i64 0, .int .i64 0, .int .i64 0, .int .i64 0, .int .i64 0, .int .i64 0, .int .i64 0] [(0, 1, .int .i64 4), (1, 1, .int .i64 5), (2, 1, .int .i64 3), (3, 1, .int .i64 6), (4, 1, .int .i64 8), (5, 1, .int .i64 2), (6, 1, .int .i64 1), (7, 1, .int .i64 0)] = some (.slice (some ⟨m.length, 0, none⟩) 8 1, m ++ [rowB [4, 5, 3, 6, 8, 2, 1, 0]]) := rfl
theorem b6a (m : Mem) : bslA m 3 1 6 [.int .i64 0, .int .i64 0, .int .i64 0, .int .i64 0, .int .i64 0, .int .i64 0] [(0, 1, .int .i64 0), (1, 1, .int .i64 3), (2, 1, .int .i64 5), (3, 1, .int .i64 8), (4, 1, .int .i64 12), (5, 1, .int .i64 20)] = some (.slice (some ⟨m.length, 0, none⟩) 6 1, m ++ [rowB [0, 3, 5, 8, 12, 20]]) := rfl
theorem b6b (m : Mem) : bslA m 3 1 6 [.int .i64 0, .int .i64 0, .int .i64 0, .int .i64 0, .int .i64 0, .int .i64 0] [(0, 1, .int .i64 0), (1, 1, .int .i64 2), (2, 1, .int .i64 5), (3, 1, .int .i64 9), (4, 1, .int .i64 14), (5, 1, .int .i64 30)] = some (.slice (some ⟨m.length, 0, none⟩) 6 1, m ++ [rowB [0, 2, 5, 9, 14, 30]]) := rfl
theorem b6c (m : Mem) : bslA m 3 1 6 [.int .i64 0, .int .i64 0, .int .i64 0, .int .i64 0, .int .i64 0, .int .i64 0] [(0, 1, .int .i64 0), (1, 1, .int .i64 1), (2, 1, .int .i64 2), (3, 1, .int .i64 3), (4, 1, .int .i64 5), (5, 1, .int .i64 8)] = some (.slice (some ⟨m.length, 0, none⟩) 6 1, m ++ [rowB [0, 1, 2, 3, 5, 8]]) := rfl
theorem b4a (m : Mem) : bslA m 3 1 4 [.int .i64 0, .int .i64 0, .int .i64 0, .int .i64 0] [(0, 1, .int .i64 (-1)), (1, 1, .int .i64 20), (2, 1, .int .i64 21), (3, 1, .int .i64 4611686018427387904)] = some (.slice (some ⟨m.length, 0, none⟩) 4 1, m ++ [rowB [-1, 20, 21, 4611686018427387904]]) := rfl
theorem b3a (m : Mem) : bslA m 3 1 3 [.int .i64 0, .int .i64 0, .int .i64 0] [(0, 1, .int .i64 (-1)), (1, 1, .int .i64 99), (2, 1, .int .i64 100)] = some (.slice (some ⟨m.length, 0, none⟩) 3 1, m ++ [rowB [-1, 99, 100]]) := rfl
theorem b3b (m : Mem) : bslA m 3 1 3 [.int .i64 0, .int .i64 0, .int .i64 0] [(0, 1, .int .i64 (-1)), (1, 1, .int .i64 9), (2, 1, .int .i64 10)] = some (.slice (some ⟨m.length, 0, none⟩) 3 1, m ++ [rowB [-1, 9, 10]]) := rfl
structure St3 (M M' : Mem) (cb id a b : Nat) (l : List Int) (vs : Nat → Value) (ls : Nat → List Int) (rs : Nat → Nat) : Prop where
  kc : KC M' b (M.length + 1) vs ls rs
  cw : Cw id M M'
  cur : CurA M' cb l id a
  res : M'[M.length]? = some ⟨.own, 26, [.slice none 0 0, .slice none 0 0, .slice none 0 0, .slice none 0 0]⟩
theorem St3.draw {M M' M2 : Mem} {cb id a a2 b : Nat} {l : List Int} {vs : Nat → Value} {ls : Nat → List Int} {rs : Nat → Nat} (h : St3 M M' cb id a b l vs ls rs) (hid : id < M.length) (w : Cw id M' M2) (k : CurA M2 cb l id a2) : St3 M M2 cb id a2 b l vs ls rs :=
  ⟨h.kc.cw w (by omega), Cw.trans hid h.cw w, k, (w.old _ (by omega) (by have := (List.getElem?_eq_some_iff.1 h.res).1; omega)).trans h.res⟩
theorem St3.app {M M' : Mem} {cb id a b : Nat} {l : List Int} {vs : Nat → Value} {ls : Nat → List Int} {rs : Nat → Nat} (h : St3 M M' cb id a b l vs ls rs) (hid : id < M.length) (hcb : cb < M.length) {o : Nat} (ho : o < 4) (hl : (ls o).length ≤ 1000) (x : Int) : ∃ M1 M2,
    appP (M' ++ [⟨.own, 3, [.int .i64 x]⟩]) 3 1 8 (vs o) (.slice (some ⟨M'.length, 0, none⟩) 1 1) = some (.slice (some ⟨M'.length + 1, 0, none⟩) ((ls o).length + 1) 1, M1) ∧
    stA M1 b o [.slice (some ⟨M'.length + 1, 0, none⟩) ((ls o).length + 1) 1] = some M2 ∧
    St3 M M2 cb id a b l (up4 vs o (.slice (some ⟨M'.length + 1, 0, none⟩) ((ls o).length + 1) 1)) (up4 ls o (ls o ++ [x])) (up4 rs o (M'.length + 1)) := by
  obtain ⟨M1, M2, h1, h2, h3, h4, h5, h6⟩ := h.kc.app ho hl x
  refine ⟨M1, M2, h1, h2, h3, ⟨by have := h.cw.len; omega, fun i e hi => (h5 i (by omega)).trans (h.cw.old i e hi), fun i bk hi hb => ?_⟩, ?_, (h5 _ (by omega)).trans h.res⟩
  · by_cases e : i = M.length
    · subst e
      rw [h5 _ (by omega)] at hb
      exact h.cw.new _ bk (Nat.le_refl _) hb
    · exact h6 (fun j k hj hk => h.cw.new j k (by omega) hk) i bk (by omega) hb
  · obtain ⟨seed, hb⟩ := h.cur.box
    exact ⟨(h5 cb (by omega)).trans h.cur.code, h.cur.byte, h.cur.few, seed, (h5 id (by omega)).trans hb⟩
theorem St3.rd {M M' : Mem} {cb id a b : Nat} {l : List Int} {vs : Nat → Value} {ls : Nat → List Int} {rs : Nat → Nat} (h : St3 M M' cb id a b l vs ls rs) : rdc M' b 0 = some (vs 0) ∧ rdc M' b 1 = some (vs 1) ∧ rdc M' b 2 = some (vs 2) ∧ rdc M' b 3 = some (vs 3) := by
  refine ⟨?_, ?_, ?_, ?_⟩ <;> (unfold rdc; rw [h.kc.box]; rfl)
theorem b1 (m : Mem) (x : Int) : bslA m 3 1 1 [.int .i64 0] [(0, 1, .int .i64 x)] = some (.slice (some ⟨m.length, 0, none⟩) 1 1, m ++ [⟨.own, 3, [.int .i64 x]⟩]) := rfl
def Lives (lo : Nat) (M : Mem) (r : Value) (k : Cs) : Prop := ∀ M3 : Mem, (∀ i, lo ≤ i → i < M.length → M3[i]? = M[i]?) → CaseA M3 r k
theorem Lives.here {lo : Nat} {M : Mem} {r : Value} {k : Cs} (h : Lives lo M r k) : CaseA M r k := h M fun _ _ _ => rfl
theorem Lives.cw {lo id : Nat} {M M' : Mem} {r : Value} {k : Cs} (h : Lives lo M r k) (hid : id < lo) (w : Cw id M M') : Lives lo M' r k := fun M3 h3 =>
  h M3 fun i h1 h2 => (h3 i h1 (Nat.lt_of_lt_of_le h2 w.len)).trans (w.old i (by omega) h2)
theorem Gr.one {M : Mem} {v : Value} {l : List Int} {r : Nat} (h : Gr M v l r) : v.oneCell' = true := by
  rcases h with ⟨rfl, _⟩ | ⟨rfl, _⟩ <;> rfl
theorem St3.fin {M M' : Mem} {cb id a b : Nat} {l : List Int} {vs : Nat → Value} {ls : Nat → List Int} {rs : Nat → Nat} (h : St3 M M' cb id a b l vs ls rs) (hid : id < M.length) (hcb : cb < M.length) (hl : ∀ i, i < 4 → (ls i).length ≤ 1000) : ∃ M2,
    stA M' M.length 0 [vs 0, vs 1, vs 2, vs 3] = some M2 ∧ rdc M2 M.length 0 = some (vs 0) ∧ rdc M2 M.length 1 = some (vs 1) ∧ rdc M2 M.length 2 = some (vs 2) ∧ rdc M2 M.length 3 = some (vs 3) ∧
    ((ls 0).length ≤ 1000 ∧ Lives M.length M2 (.agg #[vs 0, vs 1, vs 2, vs 3]) ⟨ls 0, ls 1, ls 2, ls 3⟩) ∧ Cw id M M2 ∧ CurA M2 cb l id a := by
  have hlt := (List.getElem?_eq_some_iff.1 h.res).1
  have on : onesB [vs 0, vs 1, vs 2, vs 3] = true := by
    simp [onesB, (h.kc.row 0 (by omega)).one, (h.kc.row 1 (by omega)).one, (h.kc.row 2 (by omega)).one, (h.kc.row 3 (by omega)).one]
  have hs : stA M' M.length 0 [vs 0, vs 1, vs 2, vs 3] = some (M'.set M.length ⟨.own, 26, [vs 0, vs 1, vs 2, vs 3]⟩) := by
    unfold stA
    rw [h.res]
    simp [on, putL]
  have self : (M'.set M.length ⟨.own, 26, [vs 0, vs 1, vs 2, vs 3]⟩)[M.length]? = some ⟨.own, 26, [vs 0, vs 1, vs 2, vs 3]⟩ := List.getElem?_set_self hlt
  have low : ∀ i, i ≠ M.length → (M'.set M.length ⟨.own, 26, [vs 0, vs 1, vs 2, vs 3]⟩)[i]? = M'[i]? := fun i hi => List.getElem?_set_ne (Ne.symm hi)
  have gr : ∀ M3 : Mem, (∀ i, M.length ≤ i → i < (M'.set M.length ⟨.own, 26, [vs 0, vs 1, vs 2, vs 3]⟩).length → M3[i]? = (M'.set M.length ⟨.own, 26, [vs 0, vs 1, vs 2, vs 3]⟩)[i]?) → ∀ i, i < 4 → IntsA M3 (vs i) (ls i) := fun M3 w3 i hi => by
    refine Gr.ints (r := rs i) ?_ (hl i hi)
    rcases h.kc.row i hi with h1 | ⟨h1, h2, h3⟩
    · exact .inl h1
    · have hge := (h.kc.ge i hi h2).1
      have hl3 := h3.lt
      exact .inr ⟨h1, h2, (w3 (rs i) (by omega) (by simpa using hl3)).trans ((low _ (by omega)).trans h3)⟩
  refine ⟨_, hs, ?_, ?_, ?_, ?_, ⟨hl 0 (by omega), fun M3 w3 => ⟨_, _, _, _, rfl, gr M3 w3 0 (by omega), gr M3 w3 1 (by omega), gr M3 w3 2 (by omega), gr M3 w3 3 (by omega)⟩⟩, ⟨by have := h.cw.len; simpa using this, fun i e hi => (low i (by omega)).trans (h.cw.old i e hi), fun i bk hi hb => ?_⟩, ?_⟩
  · unfold rdc; rw [self]; rfl
  · unfold rdc; rw [self]; rfl
  · unfold rdc; rw [self]; rfl
  · unfold rdc; rw [self]; rfl
  · by_cases e : i = M.length
    · subst e
      rw [self] at hb
      cases hb
      simp
    · rw [low i e] at hb
      exact h.cw.new i bk hi hb
  · obtain ⟨seed, hb⟩ := h.cur.box
    exact ⟨(low cb (by omega)).trans h.cur.code, h.cur.byte, h.cur.few, seed, (low id (by omega)).trans hb⟩
theorem St3.set {M M' : Mem} {cb id a b : Nat} {l : List Int} {vs : Nat → Value} {ls : Nat → List Int} {rs : Nat → Nat} (h : St3 M M' cb id a b l vs ls rs) (hid : id < M.length) (hcb : cb < M.length) {o : Nat} (ho : o < 4) {j : Nat} (hj : j < (ls o).length) (x : Int) : ∃ M2,
    iadA 1 (vs o) (.int .i64 (j : Int)) = some (.pointer (some ⟨rs o, j, none⟩)) ∧ stA M' (rs o) j [.int .i64 x] = some M2 ∧ St3 M M2 cb id a b l vs (up4 ls o ((ls o).set j x)) rs := by
  have hne : ls o ≠ [] := fun e => by rw [e] at hj; simp at hj
  obtain ⟨g1, g2⟩ := h.kc.ge o ho hne
  rcases h.kc.row o ho with ⟨_, h2⟩ | ⟨h1, _, h3⟩
  · exact absurd h2 hne
  · have hlt := h3.lt
    have hs : stA M' (rs o) j [.int .i64 x] = some (M'.set (rs o) (rowB ((ls o).set j x))) := by
      have := stA_at (v := .int .i64 x) h3 (off := j) (by simpa using hj) rfl
      rw [this]
      simp [rowB, List.map_set]
    have low : ∀ i, i ≠ rs o → (M'.set (rs o) (rowB ((ls o).set j x)))[i]? = M'[i]? := fun i hi => List.getElem?_set_ne (Ne.symm hi)
    refine ⟨_, ?_, hs, ⟨⟨(low b (Ne.symm g2)).trans h.kc.box, h.kc.lob, fun i hi => ?_, fun i hi hn => ?_, fun i j hi hj hij n1 n2 => ?_⟩, ⟨by have := h.cw.len; simpa using this, fun i e hi => (low i (by omega)).trans (h.cw.old i e hi), fun i bk hi hb => ?_⟩, ?_, (low _ (by omega)).trans h.res⟩⟩
    · rw [h1]
      have := iadA_in (id := rs o) (off := 0) (n := (ls o).length) (fl := 1) (sz := 1) (k := .i64) (j := j) hj
      simpa using this
    · by_cases e : i = o
      · subst e
        simp only [up4, if_true]
        refine .inr ⟨by rw [h1]; simp, by simpa using hne, ?_⟩
        unfold OwnR
        exact List.getElem?_set_self hlt
      · simp only [up4, if_neg e]
        rcases h.kc.row i hi with k1 | ⟨k1, k2, k3⟩
        · exact .inl k1
        · exact .inr ⟨k1, k2, (low _ (h.kc.ne i o hi ho e k2 hne)).trans k3⟩
    · by_cases e : i = o
      · subst e; exact ⟨g1, g2⟩
      · simp only [up4, if_neg e] at hn; exact h.kc.ge i hi hn
    · have m1 : ls i ≠ [] := by
        by_cases e : i = o
        · subst e; exact hne
        · simpa only [up4, if_neg e] using n1
      have m2 : ls j ≠ [] := by
        by_cases e : j = o
        · subst e; exact hne
        · simpa only [up4, if_neg e] using n2
      exact h.kc.ne i j hi hj hij m1 m2
    · by_cases e : i = rs o
      · subst e
        rw [List.getElem?_set_self hlt] at hb
        cases hb
        simp
      · rw [low i e] at hb
        exact h.cw.new i bk hi hb
    · obtain ⟨seed, hb⟩ := h.cur.box
      exact ⟨(low cb (by omega)).trans h.cur.code, h.cur.byte, h.cur.few, seed, (low id (by omega)).trans hb⟩
theorem someLots_ac (M : Mem) (cb id a : Nat) (l : List Int) (most : Int) (h : CurA M cb l id a) (ha : a ≤ 999000000) (hm : 0 ≤ most ∧ most ≤ 9) :
    AC Try.prog 43 [.pointer (some ⟨id, 0, none⟩), .int .i64 most] M fun r M' => ∃ k : Cs, (k.need.length ≤ 1000 ∧ Lives M.length M' r k) ∧ Cw id M M' ∧ ∃ a', a' ≤ a + 1000 ∧ CurA M' cb l id a' := by
  refine ac_of_run mixed ok_spec_l1Cur__someLots (by simp) (go_start _ _ _ ?_)
  have hid := h.lt
  simp (config := {implicitDefEqProofs := false, maxDischargeDepth := 20}) (disch := first | omega | (simp only [lenE]; done) | (simp only [lenE]; omega) | rfl | (simp only [lenE, markR_len]; done) | (simp only [lenE, markR_len]; omega)) only [runE, mapE, listE, initT_5, initT_6, initT_7, initT_8, resV, oneV, binA, unA, reduceCtorEq, Nat.reduceEqDiff, Nat.reduceAdd, Nat.reduceLT, Nat.reduceLeDiff, Nat.reduceMul, Nat.reduceSub, ↓reduceIte, decide_true, decide_false, Bool.true_eq_false, Bool.false_eq_true, Bool.not_true, Bool.not_false, if_true, if_false, and_true, true_and, memE, celE, w64, Nat.zero_add, Nat.add_zero, Nat.mul_one, putL, and_self, ldn, c_spec_l1Cur__someLots, r_spec_l1Cur__someLots, b8]
  refine callH_ac (among_new _ cb id a l [4, 5, 3, 6, 8, 2, 1, 0] (h.ext _) (by omega) (by simp) rfl (by simp) (by simp)) ?_
  rintro r M1 ⟨n0, hn0, rfl, w1, a1, ha1, k1⟩
  have hres : M1[M.length]? = some ⟨.own, 26, [.slice none 0 0, .slice none 0 0, .slice none 0 0, .slice none 0 0]⟩ := (w1.old M.length (by omega) (by simp)).trans (by simp)
  have w1 := w1.pre (noRo_own noRo_nil) hid
  have hn1 : 0 ≤ n0 ∧ n0 ≤ 8 := by simp at hn0; omega
  have l1 := w1.len
  simp (config := {implicitDefEqProofs := false, maxDischargeDepth := 20}) (disch := first | omega | (simp only [lenE]; done) | (simp only [lenE]; omega) | rfl | (simp only [lenE, markR_len]; done) | (simp only [lenE, markR_len]; omega)) only [runE, mapE, listE, initT_5, initT_6, initT_7, initT_8, resV, oneV, binA, unA, reduceCtorEq, Nat.reduceEqDiff, Nat.reduceAdd, Nat.reduceLT, Nat.reduceLeDiff, Nat.reduceMul, Nat.reduceSub, ↓reduceIte, decide_true, decide_false, Bool.true_eq_false, Bool.false_eq_true, Bool.not_true, Bool.not_false, if_true, if_false, and_true, true_and, memE, celE, w64, Nat.zero_add, Nat.add_zero, Nat.mul_one, putL, and_self, ldn]
  refine callH_rc (l1Least_rcK _ _ _) ?_
  rintro r new ⟨rfl, rfl⟩
  have bz : bldA [.slice none 0 0, .slice none 0 0, .slice none 0 0, .slice none 0 0] [] = some (.agg #[.slice none 0 0, .slice none 0 0, .slice none 0 0, .slice none 0 0]) := rfl
  simp (config := {implicitDefEqProofs := false, maxDischargeDepth := 20}) (disch := first | omega | (simp only [lenE]; done) | (simp only [lenE]; omega) | rfl | (simp only [lenE, markR_len]; done) | (simp only [lenE, markR_len]; omega)) only [runE, mapE, listE, initT_5, initT_6, initT_7, initT_8, resV, oneV, binA, unA, reduceCtorEq, Nat.reduceEqDiff, Nat.reduceAdd, Nat.reduceLT, Nat.reduceLeDiff, Nat.reduceMul, Nat.reduceSub, ↓reduceIte, decide_true, decide_false, Bool.true_eq_false, Bool.false_eq_true, Bool.not_true, Bool.not_false, if_true, if_false, and_true, true_and, memE, celE, w64, Nat.zero_add, Nat.add_zero, Nat.mul_one, putL, and_self, ldn, bz, stP_aggL]
  have hcb : cb < M.length := (List.getElem?_eq_some_iff.1 h.code).1
  have s0 : St3 M (M1 ++ [⟨.own, 26, [.slice none 0 0, .slice none 0 0, .slice none 0 0, .slice none 0 0]⟩]) cb id a1 M1.length l (fun _ => .slice none 0 0) (fun _ => []) (fun _ => 0) := by
    have hl1 := (List.getElem?_eq_some_iff.1 hres).1
    refine ⟨⟨by simp, by omega, fun i hi => .inl ⟨rfl, rfl⟩, fun i hi hne => absurd rfl hne, fun i j _ _ _ hne => absurd rfl hne⟩, w1.ext (noRo_own noRo_nil), k1.ext _, ?_⟩
    rw [List.getElem?_append_left hl1]; exact hres
  refine callH_ac (one_ac _ cb id a1 l 2 s0.cur (by omega) (by omega) (by omega)) ?_
  rintro r M2 ⟨same, rfl, w2, a2, ha2, k2⟩
  have s1 := s0.draw hid w2 k2
  simp (config := {implicitDefEqProofs := false, maxDischargeDepth := 20}) (disch := first | omega | (simp only [lenE]; done) | (simp only [lenE]; omega) | rfl | (simp only [lenE, markR_len]; done) | (simp only [lenE, markR_len]; omega)) only [runE, mapE, listE, initT_5, initT_6, initT_7, initT_8, resV, oneV, binA, unA, reduceCtorEq, Nat.reduceEqDiff, Nat.reduceAdd, Nat.reduceLT, Nat.reduceLeDiff, Nat.reduceMul, Nat.reduceSub, ↓reduceIte, decide_true, decide_false, Bool.true_eq_false, Bool.false_eq_true, Bool.not_true, Bool.not_false, if_true, if_false, and_true, true_and, memE, celE, w64, Nat.zero_add, Nat.add_zero, Nat.mul_one, putL, and_self, ldn, b6a]
  refine callH_ac (among_new M2 cb id a2 l [0, 3, 5, 8, 12, 20] k2 (by omega) rfl rfl (by simp) (by simp)) ?_
  rintro r M3 ⟨x0, hx0, rfl, w3, a3, ha3, k3⟩
  have s2 := s1.draw hid w3 k3
  simp (config := {implicitDefEqProofs := false, maxDischargeDepth := 20}) (disch := first | omega | (simp only [lenE]; done) | (simp only [lenE]; omega) | rfl | (simp only [lenE, markR_len]; done) | (simp only [lenE, markR_len]; omega)) only [runE, mapE, listE, initT_5, initT_6, initT_7, initT_8, resV, oneV, binA, unA, reduceCtorEq, Nat.reduceEqDiff, Nat.reduceAdd, Nat.reduceLT, Nat.reduceLeDiff, Nat.reduceMul, Nat.reduceSub, ↓reduceIte, decide_true, decide_false, Bool.true_eq_false, Bool.false_eq_true, Bool.not_true, Bool.not_false, if_true, if_false, and_true, true_and, memE, celE, w64, Nat.zero_add, Nat.add_zero, Nat.mul_one, putL, and_self, ldn]
  refine callH_ac (pick_ac M3 cb id a3 l 3 k3 (by omega) (by omega) (by omega)) ?_
  rintro r M4 ⟨x1, rfl, p1, p2, w4, a4, ha4, k4⟩
  have s3 := s2.draw hid w4 k4
  simp (config := {implicitDefEqProofs := false, maxDischargeDepth := 20}) (disch := first | omega | (simp only [lenE]; done) | (simp only [lenE]; omega) | rfl | (simp only [lenE, markR_len]; done) | (simp only [lenE, markR_len]; omega)) only [runE, mapE, listE, initT_5, initT_6, initT_7, initT_8, resV, oneV, binA, unA, reduceCtorEq, Nat.reduceEqDiff, Nat.reduceAdd, Nat.reduceLT, Nat.reduceLeDiff, Nat.reduceMul, Nat.reduceSub, ↓reduceIte, decide_true, decide_false, Bool.true_eq_false, Bool.false_eq_true, Bool.not_true, Bool.not_false, if_true, if_false, and_true, true_and, memE, celE, w64, Nat.zero_add, Nat.add_zero, Nat.mul_one, putL, and_self, ldn]
  refine callH_ac (pick_ac M4 cb id a4 l 2 k4 (by omega) (by omega) (by omega)) ?_
  rintro r M5 ⟨x2, rfl, p3, p4, w5, a5, ha5, k5⟩
  have s4 := s3.draw hid w5 k5
  simp (config := {implicitDefEqProofs := false, maxDischargeDepth := 20}) (disch := first | omega | (simp only [lenE]; done) | (simp only [lenE]; omega) | rfl | (simp only [lenE, markR_len]; done) | (simp only [lenE, markR_len]; omega)) only [runE, mapE, listE, initT_5, initT_6, initT_7, initT_8, resV, oneV, binA, unA, reduceCtorEq, Nat.reduceEqDiff, Nat.reduceAdd, Nat.reduceLT, Nat.reduceLeDiff, Nat.reduceMul, Nat.reduceSub, ↓reduceIte, decide_true, decide_false, Bool.true_eq_false, Bool.false_eq_true, Bool.not_true, Bool.not_false, if_true, if_false, and_true, true_and, memE, celE, w64, Nat.zero_add, Nat.add_zero, Nat.mul_one, putL, and_self, ldn]
  obtain ⟨N, hN⟩ : ∃ N, N = min n0 most := ⟨_, rfl⟩
  rw [← hN]
  refine loop_inv mixed (fun s => ∃ (t : Nat) (Mx : Mem) (vs : Nat → Value) (ls : Nat → List Int) (rs : Nat → Nat) (su un hl : Int) (ax : Nat), (t : Int) ≤ N ∧ St3 M Mx cb id ax M1.length l vs ls rs ∧ (∀ i, i < 4 → (ls i).length = t) ∧ ax ≤ a5 + 10 * t ∧
      s.t 0 = .pointer (some ⟨id, 0, none⟩) ∧ s.t 4 = .pointer (some ⟨M.length, 0, none⟩) ∧ s.t 5 = .int .i64 N ∧ s.t 6 = .pointer (some ⟨M1.length, 0, none⟩) ∧ s.t 7 = .bool same ∧ s.t 8 = .int .i64 su ∧ s.t 9 = .int .i64 un ∧ s.t 10 = .int .i64 hl ∧ s.t 11 = .int .i64 (t : Int) ∧ s.m = Mx)
      (fun s => (N - intOf (s.t 11)).toNat)
    ⟨0, M5, _, _, _, x0, x1, _, a5, by omega, s4, fun i hi => rfl, by omega, rfl, rfl, by simp only [put_t, put_t', put_m, putT_t, putT_t', putT_m, init_t, init_m, initT_0, initT_1, initT_2, initT_3, initT_4, initT_5, initT_6, initT_7, initT_8, Nat.reduceEqDiff, ↓reduceIte], rfl, rfl, rfl, rfl, rfl, rfl, rfl⟩ ?_
  rintro s ⟨t, Mx, vs, ls, rs, su, un, hl, ax, ht, st, hlen, hax, t0, t4, t5, t6, t7, t8, t9, t10, t11, tm⟩
  obtain ⟨q0, q1, q2, q3⟩ := st.rd
  have hbx := (List.getElem?_eq_some_iff.1 st.kc.box).1
  by_cases hlt : (t : Int) < N
  · cases same with
    | true =>
      simp (config := {implicitDefEqProofs := false, maxDischargeDepth := 20}) (disch := first | omega | (simp only [lenE]; done) | (simp only [lenE]; omega) | rfl | (simp only [lenE, markR_len]; done) | (simp only [lenE, markR_len]; omega)) only [runE, mapE, listE, initT_5, initT_6, initT_7, initT_8, resV, oneV, binA, unA, reduceCtorEq, Nat.reduceEqDiff, Nat.reduceAdd, Nat.reduceLT, Nat.reduceLeDiff, Nat.reduceMul, Nat.reduceSub, ↓reduceIte, decide_true, decide_false, Bool.true_eq_false, Bool.false_eq_true, Bool.not_true, Bool.not_false, if_true, if_false, and_true, true_and, memE, celE, w64, Nat.zero_add, Nat.add_zero, Nat.mul_one, putL, and_self, ldn, t0, t4, t5, t6, t7, t8, t9, t10, t11, tm, hlt, q0, b6c]
      refine ⟨?_, ?_, ?_⟩
      all_goals
        refine callH_ac (among_new Mx cb id ax l [0, 1, 2, 3, 5, 8] st.cur (by omega) rfl rfl (by simp) (by simp)) ?_
        rintro r My ⟨y, hy, rfl, wy, ay, hay, ky⟩
        have st1 := st.draw hid wy ky
        obtain ⟨q0, -, -, -⟩ := st1.rd
        obtain ⟨A1, A2, e1, e2, sa⟩ := st1.app hid hcb (o := 0) (by omega) (by rw [hlen 0 (by omega)]; omega) y
        have p1 : rdc A2 M1.length 1 = some (vs 1) := sa.rd.2.1
        obtain ⟨B1, B2, f1, f2, sb⟩ := sa.app hid hcb (o := 1) (by omega) (by show (ls 1).length ≤ 1000; rw [hlen 1 (by omega)]; omega) su
        have p2 : rdc B2 M1.length 2 = some (vs 2) := sb.rd.2.2.1
        obtain ⟨C1, C2, g1, g2, sc⟩ := sb.app hid hcb (o := 2) (by omega) (by show (ls 2).length ≤ 1000; rw [hlen 2 (by omega)]; omega) un
        have p3 : rdc C2 M1.length 3 = some (vs 3) := sc.rd.2.2.2
        obtain ⟨D1, D2, k1', k2', sd⟩ := sc.app hid hcb (o := 3) (by omega) (by show (ls 3).length ≤ 1000; rw [hlen 3 (by omega)]; omega) hl
        have f1 : appP (A2 ++ [⟨.own, 3, [.int .i64 su]⟩]) 3 1 8 (vs 1) (.slice (some ⟨A2.length, 0, none⟩) 1 1) = some (.slice (some ⟨A2.length + 1, 0, none⟩) ((ls 1).length + 1) 1, B1) := f1
        have f2 : stA B1 M1.length 1 [.slice (some ⟨A2.length + 1, 0, none⟩) ((ls 1).length + 1) 1] = some B2 := f2
        have g1 : appP (B2 ++ [⟨.own, 3, [.int .i64 un]⟩]) 3 1 8 (vs 2) (.slice (some ⟨B2.length, 0, none⟩) 1 1) = some (.slice (some ⟨B2.length + 1, 0, none⟩) ((ls 2).length + 1) 1, C1) := g1
        have g2 : stA C1 M1.length 2 [.slice (some ⟨B2.length + 1, 0, none⟩) ((ls 2).length + 1) 1] = some C2 := g2
        have k1' : appP (C2 ++ [⟨.own, 3, [.int .i64 hl]⟩]) 3 1 8 (vs 3) (.slice (some ⟨C2.length, 0, none⟩) 1 1) = some (.slice (some ⟨C2.length + 1, 0, none⟩) ((ls 3).length + 1) 1, D1) := k1'
        have k2' : stA D1 M1.length 3 [.slice (some ⟨C2.length + 1, 0, none⟩) ((ls 3).length + 1) 1] = some D2 := k2'
        simp (config := {implicitDefEqProofs := false, maxDischargeDepth := 20}) (disch := first | omega | (simp only [lenE]; done) | (simp only [lenE]; omega) | rfl | (simp only [lenE, markR_len]; done) | (simp only [lenE, markR_len]; omega)) only [runE, mapE, listE, initT_5, initT_6, initT_7, initT_8, resV, oneV, binA, unA, reduceCtorEq, Nat.reduceEqDiff, Nat.reduceAdd, Nat.reduceLT, Nat.reduceLeDiff, Nat.reduceMul, Nat.reduceSub, ↓reduceIte, decide_true, decide_false, Bool.true_eq_false, Bool.false_eq_true, Bool.not_true, Bool.not_false, if_true, if_false, and_true, true_and, memE, celE, w64, Nat.zero_add, Nat.add_zero, Nat.mul_one, putL, and_self, ldn, t0, t4, t5, t6, t7, t8, t9, t10, t11, q0, b1, e1, e2, p1, f1, f2, p2, g1, g2, p3, k1', k2']
        refine ⟨⟨t + 1, D2, _, _, _, su, un, hl, ay, by omega, sd, fun i hi => ?_, by omega, rfl, rfl, rfl, by simp, rfl⟩, by simp only [intOf]; omega⟩
        match i, hi with
        | 0, _ => show (ls 0 ++ [y]).length = t + 1; rw [List.length_append, hlen 0 (by omega)]; rfl
        | 1, _ => show (ls 1 ++ [su]).length = t + 1; rw [List.length_append, hlen 1 (by omega)]; rfl
        | 2, _ => show (ls 2 ++ [un]).length = t + 1; rw [List.length_append, hlen 2 (by omega)]; rfl
        | 3, _ => show (ls 3 ++ [hl]).length = t + 1; rw [List.length_append, hlen 3 (by omega)]; rfl
    | false =>
      simp (config := {implicitDefEqProofs := false, maxDischargeDepth := 20}) (disch := first | omega | (simp only [lenE]; done) | (simp only [lenE]; omega) | rfl | (simp only [lenE, markR_len]; done) | (simp only [lenE, markR_len]; omega)) only [runE, mapE, listE, initT_5, initT_6, initT_7, initT_8, resV, oneV, binA, unA, reduceCtorEq, Nat.reduceEqDiff, Nat.reduceAdd, Nat.reduceLT, Nat.reduceLeDiff, Nat.reduceMul, Nat.reduceSub, ↓reduceIte, decide_true, decide_false, Bool.true_eq_false, Bool.false_eq_true, Bool.not_true, Bool.not_false, if_true, if_false, and_true, true_and, memE, celE, w64, Nat.zero_add, Nat.add_zero, Nat.mul_one, putL, and_self, ldn, t0, t4, t5, t6, t7, t8, t9, t10, t11, tm, hlt, b6b]
      refine callH_ac (among_new Mx cb id ax l [0, 2, 5, 9, 14, 30] st.cur (by omega) rfl rfl (by simp) (by simp)) ?_
      rintro r M6 ⟨y1, hy1, rfl, w6, a6, ha6, k6⟩
      have s6 := st.draw hid w6 k6
      simp (config := {implicitDefEqProofs := false, maxDischargeDepth := 20}) (disch := first | omega | (simp only [lenE]; done) | (simp only [lenE]; omega) | rfl | (simp only [lenE, markR_len]; done) | (simp only [lenE, markR_len]; omega)) only [runE, mapE, listE, initT_5, initT_6, initT_7, initT_8, resV, oneV, binA, unA, reduceCtorEq, Nat.reduceEqDiff, Nat.reduceAdd, Nat.reduceLT, Nat.reduceLeDiff, Nat.reduceMul, Nat.reduceSub, ↓reduceIte, decide_true, decide_false, Bool.true_eq_false, Bool.false_eq_true, Bool.not_true, Bool.not_false, if_true, if_false, and_true, true_and, memE, celE, w64, Nat.zero_add, Nat.add_zero, Nat.mul_one, putL, and_self, ldn, t0]
      refine callH_ac (pick_ac M6 cb id a6 l 5 k6 (by omega) (by omega) (by omega)) ?_
      rintro r M7 ⟨y2, rfl, -, -, w7, a7, ha7, k7⟩
      have s7 := s6.draw hid w7 k7
      simp (config := {implicitDefEqProofs := false, maxDischargeDepth := 20}) (disch := first | omega | (simp only [lenE]; done) | (simp only [lenE]; omega) | rfl | (simp only [lenE, markR_len]; done) | (simp only [lenE, markR_len]; omega)) only [runE, mapE, listE, initT_5, initT_6, initT_7, initT_8, resV, oneV, binA, unA, reduceCtorEq, Nat.reduceEqDiff, Nat.reduceAdd, Nat.reduceLT, Nat.reduceLeDiff, Nat.reduceMul, Nat.reduceSub, ↓reduceIte, decide_true, decide_false, Bool.true_eq_false, Bool.false_eq_true, Bool.not_true, Bool.not_false, if_true, if_false, and_true, true_and, memE, celE, w64, Nat.zero_add, Nat.add_zero, Nat.mul_one, putL, and_self, ldn, t0]
      refine callH_ac (pick_ac M7 cb id a7 l 4 k7 (by omega) (by omega) (by omega)) ?_
      rintro r M8 ⟨y3, rfl, -, -, w8, a8, ha8, k8⟩
      have s8 := s7.draw hid w8 k8
      obtain ⟨q0, q1, q2, q3⟩ := s8.rd
      have hbx := (List.getElem?_eq_some_iff.1 s8.kc.box).1
      simp (config := {implicitDefEqProofs := false, maxDischargeDepth := 20}) (disch := first | omega | (simp only [lenE]; done) | (simp only [lenE]; omega) | rfl | (simp only [lenE, markR_len]; done) | (simp only [lenE, markR_len]; omega)) only [runE, mapE, listE, initT_5, initT_6, initT_7, initT_8, resV, oneV, binA, unA, reduceCtorEq, Nat.reduceEqDiff, Nat.reduceAdd, Nat.reduceLT, Nat.reduceLeDiff, Nat.reduceMul, Nat.reduceSub, ↓reduceIte, decide_true, decide_false, Bool.true_eq_false, Bool.false_eq_true, Bool.not_true, Bool.not_false, if_true, if_false, and_true, true_and, memE, celE, w64, Nat.zero_add, Nat.add_zero, Nat.mul_one, putL, and_self, ldn, t0, t4, t5, t6, t7, t11, q0, b6c]
      refine ⟨?_, ?_, ?_⟩
      all_goals
        refine callH_ac (among_new M8 cb id a8 l [0, 1, 2, 3, 5, 8] s8.cur (by omega) rfl rfl (by simp) (by simp)) ?_
        rintro r My ⟨y, hy, rfl, wy, ay, hay, ky⟩
        have st1 := s8.draw hid wy ky
        obtain ⟨q0, -, -, -⟩ := st1.rd
        obtain ⟨A1, A2, e1, e2, sa⟩ := st1.app hid hcb (o := 0) (by omega) (by rw [hlen 0 (by omega)]; omega) y
        have p1 : rdc A2 M1.length 1 = some (vs 1) := sa.rd.2.1
        obtain ⟨B1, B2, f1, f2, sb⟩ := sa.app hid hcb (o := 1) (by omega) (by show (ls 1).length ≤ 1000; rw [hlen 1 (by omega)]; omega) y1
        have p2 : rdc B2 M1.length 2 = some (vs 2) := sb.rd.2.2.1
        obtain ⟨C1, C2, g1, g2, sc⟩ := sb.app hid hcb (o := 2) (by omega) (by show (ls 2).length ≤ 1000; rw [hlen 2 (by omega)]; omega) y2
        have p3 : rdc C2 M1.length 3 = some (vs 3) := sc.rd.2.2.2
        obtain ⟨D1, D2, k1', k2', sd⟩ := sc.app hid hcb (o := 3) (by omega) (by show (ls 3).length ≤ 1000; rw [hlen 3 (by omega)]; omega) y3
        have f1 : appP (A2 ++ [⟨.own, 3, [.int .i64 y1]⟩]) 3 1 8 (vs 1) (.slice (some ⟨A2.length, 0, none⟩) 1 1) = some (.slice (some ⟨A2.length + 1, 0, none⟩) ((ls 1).length + 1) 1, B1) := f1
        have f2 : stA B1 M1.length 1 [.slice (some ⟨A2.length + 1, 0, none⟩) ((ls 1).length + 1) 1] = some B2 := f2
        have g1 : appP (B2 ++ [⟨.own, 3, [.int .i64 y2]⟩]) 3 1 8 (vs 2) (.slice (some ⟨B2.length, 0, none⟩) 1 1) = some (.slice (some ⟨B2.length + 1, 0, none⟩) ((ls 2).length + 1) 1, C1) := g1
        have g2 : stA C1 M1.length 2 [.slice (some ⟨B2.length + 1, 0, none⟩) ((ls 2).length + 1) 1] = some C2 := g2
        have k1' : appP (C2 ++ [⟨.own, 3, [.int .i64 y3]⟩]) 3 1 8 (vs 3) (.slice (some ⟨C2.length, 0, none⟩) 1 1) = some (.slice (some ⟨C2.length + 1, 0, none⟩) ((ls 3).length + 1) 1, D1) := k1'
        have k2' : stA D1 M1.length 3 [.slice (some ⟨C2.length + 1, 0, none⟩) ((ls 3).length + 1) 1] = some D2 := k2'
        simp (config := {implicitDefEqProofs := false, maxDischargeDepth := 20}) (disch := first | omega | (simp only [lenE]; done) | (simp only [lenE]; omega) | rfl | (simp only [lenE, markR_len]; done) | (simp only [lenE, markR_len]; omega)) only [runE, mapE, listE, initT_5, initT_6, initT_7, initT_8, resV, oneV, binA, unA, reduceCtorEq, Nat.reduceEqDiff, Nat.reduceAdd, Nat.reduceLT, Nat.reduceLeDiff, Nat.reduceMul, Nat.reduceSub, ↓reduceIte, decide_true, decide_false, Bool.true_eq_false, Bool.false_eq_true, Bool.not_true, Bool.not_false, if_true, if_false, and_true, true_and, memE, celE, w64, Nat.zero_add, Nat.add_zero, Nat.mul_one, putL, and_self, ldn, t0, t4, t5, t6, t7, t8, t9, t10, t11, q0, b1, e1, e2, p1, f1, f2, p2, g1, g2, p3, k1', k2']
        refine ⟨⟨t + 1, D2, _, _, _, y1, y2, y3, ay, by omega, sd, fun i hi => ?_, by omega, rfl, rfl, rfl, by simp, rfl⟩, by simp only [intOf]; omega⟩
        match i, hi with
        | 0, _ => show (ls 0 ++ [y]).length = t + 1; rw [List.length_append, hlen 0 (by omega)]; rfl
        | 1, _ => show (ls 1 ++ [y1]).length = t + 1; rw [List.length_append, hlen 1 (by omega)]; rfl
        | 2, _ => show (ls 2 ++ [y2]).length = t + 1; rw [List.length_append, hlen 2 (by omega)]; rfl
        | 3, _ => show (ls 3 ++ [y3]).length = t + 1; rw [List.length_append, hlen 3 (by omega)]; rfl
  · simp (config := {implicitDefEqProofs := false, maxDischargeDepth := 20}) (disch := first | omega | (simp only [lenE]; done) | (simp only [lenE]; omega) | rfl | (simp only [lenE, markR_len]; done) | (simp only [lenE, markR_len]; omega)) only [runE, mapE, listE, initT_5, initT_6, initT_7, initT_8, resV, oneV, binA, unA, reduceCtorEq, Nat.reduceEqDiff, Nat.reduceAdd, Nat.reduceLT, Nat.reduceLeDiff, Nat.reduceMul, Nat.reduceSub, ↓reduceIte, decide_true, decide_false, Bool.true_eq_false, Bool.false_eq_true, Bool.not_true, Bool.not_false, if_true, if_false, and_true, true_and, memE, celE, w64, Nat.zero_add, Nat.add_zero, Nat.mul_one, putL, and_self, ldn, t5, t11, tm, hlt]
    by_cases hN0 : N > 0
    · simp (config := {implicitDefEqProofs := false, maxDischargeDepth := 20}) (disch := first | omega | (simp only [lenE]; done) | (simp only [lenE]; omega) | rfl | (simp only [lenE, markR_len]; done) | (simp only [lenE, markR_len]; omega)) only [runE, mapE, listE, initT_5, initT_6, initT_7, initT_8, resV, oneV, binA, unA, reduceCtorEq, Nat.reduceEqDiff, Nat.reduceAdd, Nat.reduceLT, Nat.reduceLeDiff, Nat.reduceMul, Nat.reduceSub, ↓reduceIte, decide_true, decide_false, Bool.true_eq_false, Bool.false_eq_true, Bool.not_true, Bool.not_false, if_true, if_false, and_true, true_and, memE, celE, w64, Nat.zero_add, Nat.add_zero, Nat.mul_one, putL, and_self, ldn, hN0, t0, t5, tm]
      refine callH_ac (pick_ac Mx cb id ax l N st.cur (by omega) (by omega) (by omega)) ?_
      rintro r M6 ⟨jz, rfl, j1, j2, w6, a6, ha6, k6⟩
      obtain ⟨jn, rfl⟩ : ∃ jn : Nat, jz = (jn : Int) := ⟨jz.toNat, by omega⟩
      have s6 := st.draw hid w6 k6
      simp (config := {implicitDefEqProofs := false, maxDischargeDepth := 20}) (disch := first | omega | (simp only [lenE]; done) | (simp only [lenE]; omega) | rfl | (simp only [lenE, markR_len]; done) | (simp only [lenE, markR_len]; omega)) only [runE, mapE, listE, initT_5, initT_6, initT_7, initT_8, resV, oneV, binA, unA, reduceCtorEq, Nat.reduceEqDiff, Nat.reduceAdd, Nat.reduceLT, Nat.reduceLeDiff, Nat.reduceMul, Nat.reduceSub, ↓reduceIte, decide_true, decide_false, Bool.true_eq_false, Bool.false_eq_true, Bool.not_true, Bool.not_false, if_true, if_false, and_true, true_and, memE, celE, w64, Nat.zero_add, Nat.add_zero, Nat.mul_one, putL, and_self, ldn, t0]
      refine callH_ac (pick_ac M6 cb id a6 l 60 k6 (by omega) (by omega) (by omega)) ?_
      rintro r M7 ⟨x, rfl, -, -, w7, a7, ha7, k7⟩
      have s7 := s6.draw hid w7 k7
      obtain ⟨q0, q1, q2, q3⟩ := s7.rd
      have hbx := (List.getElem?_eq_some_iff.1 s7.kc.box).1
      have ht' : (t : Int) = N := by omega
      have len0 : ∀ y : Int, ∀ i, i < 4 → (up4 ls 0 ((ls 0).set jn y) i).length ≤ 1000 := fun y i hi => by
        by_cases e : i = 0
        · subst e; simp only [up4, if_true, List.length_set]; rw [hlen 0 (by omega)]; omega
        · simp only [up4, if_neg e]; rw [hlen i hi]; omega
      have len1 : ∀ y : Int, ∀ i, i < 4 → (up4 ls 1 ((ls 1).set jn y) i).length ≤ 1000 := fun y i hi => by
        by_cases e : i = 1
        · subst e; simp only [up4, if_true, List.length_set]; rw [hlen 1 (by omega)]; omega
        · simp only [up4, if_neg e]; rw [hlen i hi]; omega
      have len2 : ∀ y : Int, ∀ i, i < 4 → (up4 ls 2 ((ls 2).set jn y) i).length ≤ 1000 := fun y i hi => by
        by_cases e : i = 2
        · subst e; simp only [up4, if_true, List.length_set]; rw [hlen 2 (by omega)]; omega
        · simp only [up4, if_neg e]; rw [hlen i hi]; omega
      have len3 : ∀ y : Int, ∀ i, i < 4 → (up4 ls 3 ((ls 3).set jn y) i).length ≤ 1000 := fun y i hi => by
        by_cases e : i = 3
        · subst e; simp only [up4, if_true, List.length_set]; rw [hlen 3 (by omega)]; omega
        · simp only [up4, if_neg e]; rw [hlen i hi]; omega
      have ne : ∀ c : Int, x ≠ c → (x == c) = false := fun c h => by simpa using h
      have te : ∀ c : Int, (c == c) = true := fun c => by simp
      by_cases x0 : x = 0
      · have xe0 : (x == 0) = true := by rw [x0]; rfl
        simp (config := {implicitDefEqProofs := false, maxDischargeDepth := 20}) (disch := first | omega | (simp only [lenE]; done) | (simp only [lenE]; omega) | rfl | (simp only [lenE, markR_len]; done) | (simp only [lenE, markR_len]; omega)) only [runE, mapE, listE, initT_5, initT_6, initT_7, initT_8, resV, oneV, binA, unA, reduceCtorEq, Nat.reduceEqDiff, Nat.reduceAdd, Nat.reduceLT, Nat.reduceLeDiff, Nat.reduceMul, Nat.reduceSub, ↓reduceIte, decide_true, decide_false, Bool.true_eq_false, Bool.false_eq_true, Bool.not_true, Bool.not_false, if_true, if_false, and_true, true_and, memE, celE, w64, Nat.zero_add, Nat.add_zero, Nat.mul_one, putL, and_self, ldn, t0, t4, t5, t6, xe0, b4a, q0, q1, q2, q3]
        refine ⟨?_, ?_, ?_⟩
        all_goals
          refine callH_ac (among_new M7 cb id a7 l [-1, 20, 21, 4611686018427387904] s7.cur (by omega) rfl rfl (by simp) (by simp)) ?_
          rintro r My ⟨y, hy, rfl, wy, ay, hay, ky⟩
          have s8 := s7.draw hid wy ky
          obtain ⟨q0, q1, q2, q3⟩ := s8.rd
          obtain ⟨M8, i1, i2, s9⟩ := s8.set hid hcb (o := 0) (by omega) (j := jn) (by rw [hlen 0 (by omega)]; omega) y
          obtain ⟨r0, r1, r2, r3⟩ := s9.rd
          obtain ⟨M9, m1, u0, u1, u2, u3, m2, m3, m4⟩ := s9.fin hid hcb (len0 y)
          simp (config := {implicitDefEqProofs := false, maxDischargeDepth := 20}) (disch := first | omega | (simp only [lenE]; done) | (simp only [lenE]; omega) | rfl | (simp only [lenE, markR_len]; done) | (simp only [lenE, markR_len]; omega)) only [runE, mapE, listE, initT_5, initT_6, initT_7, initT_8, resV, oneV, binA, unA, reduceCtorEq, Nat.reduceEqDiff, Nat.reduceAdd, Nat.reduceLT, Nat.reduceLeDiff, Nat.reduceMul, Nat.reduceSub, ↓reduceIte, decide_true, decide_false, Bool.true_eq_false, Bool.false_eq_true, Bool.not_true, Bool.not_false, if_true, if_false, and_true, true_and, memE, celE, w64, Nat.zero_add, Nat.add_zero, Nat.mul_one, putL, and_self, ldn, t0, t4, t5, t6, q0, q1, q2, q3, i1, i2, r0, r1, r2, r3, stP_aggL, m1, u0, u1, u2, u3]
          exact ⟨⟨_, _, _, _⟩, ⟨m2.1, m2.2⟩, m3, ay, by omega, m4⟩
      by_cases x1 : x = 1
      · have xe1 : (x == 1) = true := by rw [x1]; rfl
        simp (config := {implicitDefEqProofs := false, maxDischargeDepth := 20}) (disch := first | omega | (simp only [lenE]; done) | (simp only [lenE]; omega) | rfl | (simp only [lenE, markR_len]; done) | (simp only [lenE, markR_len]; omega)) only [runE, mapE, listE, initT_5, initT_6, initT_7, initT_8, resV, oneV, binA, unA, reduceCtorEq, Nat.reduceEqDiff, Nat.reduceAdd, Nat.reduceLT, Nat.reduceLeDiff, Nat.reduceMul, Nat.reduceSub, ↓reduceIte, decide_true, decide_false, Bool.true_eq_false, Bool.false_eq_true, Bool.not_true, Bool.not_false, if_true, if_false, and_true, true_and, memE, celE, w64, Nat.zero_add, Nat.add_zero, Nat.mul_one, putL, and_self, ldn, t0, t4, t5, t6, ne 0 x0, xe1, b3a, q0, q1, q2, q3]
        refine ⟨?_, ?_, ?_⟩
        all_goals
          refine callH_ac (among_new M7 cb id a7 l [-1, 99, 100] s7.cur (by omega) rfl rfl (by simp) (by simp)) ?_
          rintro r My ⟨y, hy, rfl, wy, ay, hay, ky⟩
          have s8 := s7.draw hid wy ky
          obtain ⟨q0, q1, q2, q3⟩ := s8.rd
          obtain ⟨M8, i1, i2, s9⟩ := s8.set hid hcb (o := 1) (by omega) (j := jn) (by rw [hlen 1 (by omega)]; omega) y
          obtain ⟨r0, r1, r2, r3⟩ := s9.rd
          obtain ⟨M9, m1, u0, u1, u2, u3, m2, m3, m4⟩ := s9.fin hid hcb (len1 y)
          simp (config := {implicitDefEqProofs := false, maxDischargeDepth := 20}) (disch := first | omega | (simp only [lenE]; done) | (simp only [lenE]; omega) | rfl | (simp only [lenE, markR_len]; done) | (simp only [lenE, markR_len]; omega)) only [runE, mapE, listE, initT_5, initT_6, initT_7, initT_8, resV, oneV, binA, unA, reduceCtorEq, Nat.reduceEqDiff, Nat.reduceAdd, Nat.reduceLT, Nat.reduceLeDiff, Nat.reduceMul, Nat.reduceSub, ↓reduceIte, decide_true, decide_false, Bool.true_eq_false, Bool.false_eq_true, Bool.not_true, Bool.not_false, if_true, if_false, and_true, true_and, memE, celE, w64, Nat.zero_add, Nat.add_zero, Nat.mul_one, putL, and_self, ldn, t0, t4, t5, t6, q0, q1, q2, q3, i1, i2, r0, r1, r2, r3, stP_aggL, m1, u0, u1, u2, u3]
          exact ⟨⟨_, _, _, _⟩, ⟨m2.1, m2.2⟩, m3, ay, by omega, m4⟩
      by_cases x2 : x = 2
      · have xe2 : (x == 2) = true := by rw [x2]; rfl
        simp (config := {implicitDefEqProofs := false, maxDischargeDepth := 20}) (disch := first | omega | (simp only [lenE]; done) | (simp only [lenE]; omega) | rfl | (simp only [lenE, markR_len]; done) | (simp only [lenE, markR_len]; omega)) only [runE, mapE, listE, initT_5, initT_6, initT_7, initT_8, resV, oneV, binA, unA, reduceCtorEq, Nat.reduceEqDiff, Nat.reduceAdd, Nat.reduceLT, Nat.reduceLeDiff, Nat.reduceMul, Nat.reduceSub, ↓reduceIte, decide_true, decide_false, Bool.true_eq_false, Bool.false_eq_true, Bool.not_true, Bool.not_false, if_true, if_false, and_true, true_and, memE, celE, w64, Nat.zero_add, Nat.add_zero, Nat.mul_one, putL, and_self, ldn, t0, t4, t5, t6, ne 0 x0, ne 1 x1, xe2, b3b, q0, q1, q2, q3]
        refine ⟨?_, ?_, ?_⟩
        all_goals
          refine callH_ac (among_new M7 cb id a7 l [-1, 9, 10] s7.cur (by omega) rfl rfl (by simp) (by simp)) ?_
          rintro r My ⟨y, hy, rfl, wy, ay, hay, ky⟩
          have s8 := s7.draw hid wy ky
          obtain ⟨q0, q1, q2, q3⟩ := s8.rd
          obtain ⟨M8, i1, i2, s9⟩ := s8.set hid hcb (o := 2) (by omega) (j := jn) (by rw [hlen 2 (by omega)]; omega) y
          obtain ⟨r0, r1, r2, r3⟩ := s9.rd
          obtain ⟨M9, m1, u0, u1, u2, u3, m2, m3, m4⟩ := s9.fin hid hcb (len2 y)
          simp (config := {implicitDefEqProofs := false, maxDischargeDepth := 20}) (disch := first | omega | (simp only [lenE]; done) | (simp only [lenE]; omega) | rfl | (simp only [lenE, markR_len]; done) | (simp only [lenE, markR_len]; omega)) only [runE, mapE, listE, initT_5, initT_6, initT_7, initT_8, resV, oneV, binA, unA, reduceCtorEq, Nat.reduceEqDiff, Nat.reduceAdd, Nat.reduceLT, Nat.reduceLeDiff, Nat.reduceMul, Nat.reduceSub, ↓reduceIte, decide_true, decide_false, Bool.true_eq_false, Bool.false_eq_true, Bool.not_true, Bool.not_false, if_true, if_false, and_true, true_and, memE, celE, w64, Nat.zero_add, Nat.add_zero, Nat.mul_one, putL, and_self, ldn, t0, t4, t5, t6, q0, q1, q2, q3, i1, i2, r0, r1, r2, r3, stP_aggL, m1, u0, u1, u2, u3]
          exact ⟨⟨_, _, _, _⟩, ⟨m2.1, m2.2⟩, m3, ay, by omega, m4⟩
      by_cases x3 : x = 3
      · have xe3 : (x == 3) = true := by rw [x3]; rfl
        simp (config := {implicitDefEqProofs := false, maxDischargeDepth := 20}) (disch := first | omega | (simp only [lenE]; done) | (simp only [lenE]; omega) | rfl | (simp only [lenE, markR_len]; done) | (simp only [lenE, markR_len]; omega)) only [runE, mapE, listE, initT_5, initT_6, initT_7, initT_8, resV, oneV, binA, unA, reduceCtorEq, Nat.reduceEqDiff, Nat.reduceAdd, Nat.reduceLT, Nat.reduceLeDiff, Nat.reduceMul, Nat.reduceSub, ↓reduceIte, decide_true, decide_false, Bool.true_eq_false, Bool.false_eq_true, Bool.not_true, Bool.not_false, if_true, if_false, and_true, true_and, memE, celE, w64, Nat.zero_add, Nat.add_zero, Nat.mul_one, putL, and_self, ldn, t0, t4, t5, t6, ne 0 x0, ne 1 x1, ne 2 x2, xe3, b3b, q0, q1, q2, q3]
        refine ⟨?_, ?_, ?_⟩
        all_goals
          refine callH_ac (among_new M7 cb id a7 l [-1, 9, 10] s7.cur (by omega) rfl rfl (by simp) (by simp)) ?_
          rintro r My ⟨y, hy, rfl, wy, ay, hay, ky⟩
          have s8 := s7.draw hid wy ky
          obtain ⟨q0, q1, q2, q3⟩ := s8.rd
          obtain ⟨M8, i1, i2, s9⟩ := s8.set hid hcb (o := 3) (by omega) (j := jn) (by rw [hlen 3 (by omega)]; omega) y
          obtain ⟨r0, r1, r2, r3⟩ := s9.rd
          obtain ⟨M9, m1, u0, u1, u2, u3, m2, m3, m4⟩ := s9.fin hid hcb (len3 y)
          simp (config := {implicitDefEqProofs := false, maxDischargeDepth := 20}) (disch := first | omega | (simp only [lenE]; done) | (simp only [lenE]; omega) | rfl | (simp only [lenE, markR_len]; done) | (simp only [lenE, markR_len]; omega)) only [runE, mapE, listE, initT_5, initT_6, initT_7, initT_8, resV, oneV, binA, unA, reduceCtorEq, Nat.reduceEqDiff, Nat.reduceAdd, Nat.reduceLT, Nat.reduceLeDiff, Nat.reduceMul, Nat.reduceSub, ↓reduceIte, decide_true, decide_false, Bool.true_eq_false, Bool.false_eq_true, Bool.not_true, Bool.not_false, if_true, if_false, and_true, true_and, memE, celE, w64, Nat.zero_add, Nat.add_zero, Nat.mul_one, putL, and_self, ldn, t0, t4, t5, t6, q0, q1, q2, q3, i1, i2, r0, r1, r2, r3, stP_aggL, m1, u0, u1, u2, u3]
          exact ⟨⟨_, _, _, _⟩, ⟨m2.1, m2.2⟩, m3, ay, by omega, m4⟩
      by_cases x4 : x = 4
      · have xe4 : (x == 4) = true := by rw [x4]; rfl
        obtain ⟨A1, A2, e1, e2, sa⟩ := s7.app hid hcb (o := 2) (by omega) (by rw [hlen 2 (by omega)]; omega) 1
        obtain ⟨r0, r1, r2, r3⟩ := sa.rd
        obtain ⟨M9, m1, u0, u1, u2, u3, m2, m3, m4⟩ := sa.fin hid hcb (fun i hi => by
          by_cases e : i = 2
          · subst e; simp only [up4, if_true, List.length_append, List.length_cons, List.length_nil]; rw [hlen 2 (by omega)]; omega
          · simp only [up4, if_neg e]; rw [hlen i hi]; omega)
        simp (config := {implicitDefEqProofs := false, maxDischargeDepth := 20}) (disch := first | omega | (simp only [lenE]; done) | (simp only [lenE]; omega) | rfl | (simp only [lenE, markR_len]; done) | (simp only [lenE, markR_len]; omega)) only [runE, mapE, listE, initT_5, initT_6, initT_7, initT_8, resV, oneV, binA, unA, reduceCtorEq, Nat.reduceEqDiff, Nat.reduceAdd, Nat.reduceLT, Nat.reduceLeDiff, Nat.reduceMul, Nat.reduceSub, ↓reduceIte, decide_true, decide_false, Bool.true_eq_false, Bool.false_eq_true, Bool.not_true, Bool.not_false, if_true, if_false, and_true, true_and, memE, celE, w64, Nat.zero_add, Nat.add_zero, Nat.mul_one, putL, and_self, ldn, t0, t4, t5, t6, ne 0 x0, ne 1 x1, ne 2 x2, ne 3 x3, xe4, q0, q1, q2, q3, b1, e1, e2, r0, r1, r2, r3, stP_aggL, m1, u0, u1, u2, u3]
        exact ⟨⟨_, _, _, _⟩, ⟨m2.1, m2.2⟩, m3, a7, by omega, m4⟩
      by_cases x5 : x = 5
      · have xe5 : (x == 5) = true := by rw [x5]; rfl
        simp (config := {implicitDefEqProofs := false, maxDischargeDepth := 20}) (disch := first | omega | (simp only [lenE]; done) | (simp only [lenE]; omega) | rfl | (simp only [lenE, markR_len]; done) | (simp only [lenE, markR_len]; omega)) only [runE, mapE, listE, initT_5, initT_6, initT_7, initT_8, resV, oneV, binA, unA, reduceCtorEq, Nat.reduceEqDiff, Nat.reduceAdd, Nat.reduceLT, Nat.reduceLeDiff, Nat.reduceMul, Nat.reduceSub, ↓reduceIte, decide_true, decide_false, Bool.true_eq_false, Bool.false_eq_true, Bool.not_true, Bool.not_false, if_true, if_false, and_true, true_and, memE, celE, w64, Nat.zero_add, Nat.add_zero, Nat.mul_one, putL, and_self, ldn, t0, t4, t5, t6, ne 0 x0, ne 1 x1, ne 2 x2, ne 3 x3, ne 4 x4, xe5]
        refine loop_inv mixed (fun s => ∃ (My : Mem) (vy : Nat → Value) (ly : Nat → List Int) (ry : Nat → Nat) (n' : Nat), n' ≤ 9 ∧ St3 M My cb id a7 M1.length l vy ly ry ∧ (∀ i, i < 4 → (ly i).length = n') ∧ s.t 4 = .pointer (some ⟨M.length, 0, none⟩) ∧ s.t 6 = .pointer (some ⟨M1.length, 0, none⟩) ∧ s.m = My)
            (fun s => 9 - (match rdc s.m M1.length 0 with | some v => lenOfA v | none => 0))
          ⟨M7, vs, ls, rs, t, by omega, s7, hlen, by simp only [put_t, put_t', put_m, putT_t, putT_t', putT_m, init_t, init_m, initT_0, initT_1, initT_2, initT_3, initT_4, initT_5, initT_6, initT_7, initT_8, Nat.reduceEqDiff, ↓reduceIte, t4], by simp only [put_t, put_t', put_m, putT_t, putT_t', putT_m, init_t, init_m, initT_0, initT_1, initT_2, initT_3, initT_4, initT_5, initT_6, initT_7, initT_8, Nat.reduceEqDiff, ↓reduceIte, t6], rfl⟩ ?_
        rintro s ⟨My, vy, ly, ry, n', hn', sy, hly, t4, t6, tm⟩
        obtain ⟨q0, q1, q2, q3⟩ := sy.rd
        have i0 := (sy.kc.row 0 (by omega)).ints (by rw [hly 0 (by omega)]; omega)
        have l0 := i0.len
        rw [hly 0 (by omega)] at l0
        by_cases h9 : (n' : Int) < 9
        · obtain ⟨A1, A2, e1, e2, sa⟩ := sy.app hid hcb (o := 0) (by omega) (by rw [hly 0 (by omega)]; omega) 1
          have p1 : rdc A2 M1.length 1 = some (vy 1) := sa.rd.2.1
          obtain ⟨B1, B2, f1, f2, sb⟩ := sa.app hid hcb (o := 1) (by omega) (by show (ly 1).length ≤ 1000; rw [hly 1 (by omega)]; omega) 1
          have p2 : rdc B2 M1.length 2 = some (vy 2) := sb.rd.2.2.1
          obtain ⟨C1, C2, g1, g2, sc⟩ := sb.app hid hcb (o := 2) (by omega) (by show (ly 2).length ≤ 1000; rw [hly 2 (by omega)]; omega) 1
          have p3 : rdc C2 M1.length 3 = some (vy 3) := sc.rd.2.2.2
          obtain ⟨D1, D2, k1', k2', sd⟩ := sc.app hid hcb (o := 3) (by omega) (by show (ly 3).length ≤ 1000; rw [hly 3 (by omega)]; omega) 1
          have f1 : appP (A2 ++ [⟨.own, 3, [.int .i64 1]⟩]) 3 1 8 (vy 1) (.slice (some ⟨A2.length, 0, none⟩) 1 1) = some (.slice (some ⟨A2.length + 1, 0, none⟩) ((ly 1).length + 1) 1, B1) := f1
          have f2 : stA B1 M1.length 1 [.slice (some ⟨A2.length + 1, 0, none⟩) ((ly 1).length + 1) 1] = some B2 := f2
          have g1 : appP (B2 ++ [⟨.own, 3, [.int .i64 1]⟩]) 3 1 8 (vy 2) (.slice (some ⟨B2.length, 0, none⟩) 1 1) = some (.slice (some ⟨B2.length + 1, 0, none⟩) ((ly 2).length + 1) 1, C1) := g1
          have g2 : stA C1 M1.length 2 [.slice (some ⟨B2.length + 1, 0, none⟩) ((ly 2).length + 1) 1] = some C2 := g2
          have k1' : appP (C2 ++ [⟨.own, 3, [.int .i64 1]⟩]) 3 1 8 (vy 3) (.slice (some ⟨C2.length, 0, none⟩) 1 1) = some (.slice (some ⟨C2.length + 1, 0, none⟩) ((ly 3).length + 1) 1, D1) := k1'
          have k2' : stA D1 M1.length 3 [.slice (some ⟨C2.length + 1, 0, none⟩) ((ly 3).length + 1) 1] = some D2 := k2'
          have z0 : rdc D2 M1.length 0 = some (.slice (some ⟨My.length + 1, 0, none⟩) ((ly 0).length + 1) 1) := sd.rd.1
          simp (config := {implicitDefEqProofs := false, maxDischargeDepth := 20}) (disch := first | omega | (simp only [lenE]; done) | (simp only [lenE]; omega) | rfl | (simp only [lenE, markR_len]; done) | (simp only [lenE, markR_len]; omega)) only [runE, mapE, listE, initT_5, initT_6, initT_7, initT_8, resV, oneV, binA, unA, reduceCtorEq, Nat.reduceEqDiff, Nat.reduceAdd, Nat.reduceLT, Nat.reduceLeDiff, Nat.reduceMul, Nat.reduceSub, ↓reduceIte, decide_true, decide_false, Bool.true_eq_false, Bool.false_eq_true, Bool.not_true, Bool.not_false, if_true, if_false, and_true, true_and, memE, celE, w64, Nat.zero_add, Nat.add_zero, Nat.mul_one, putL, and_self, ldn, t4, t6, tm, q0, l0, h9, b1, e1, e2, p1, f1, f2, p2, g1, g2, p3, k1', k2']
          have lv : lenOfA (vy 0) = n' := by
            rcases sy.kc.row 0 (by omega) with ⟨h1, h2⟩ | ⟨h1, _⟩
            · rw [h1]; have := hly 0 (by omega); rw [h2] at this; exact this
            · rw [h1]; exact hly 0 (by omega)
          refine ⟨⟨D2, _, _, _, n' + 1, by omega, sd, fun i hi => ?_, rfl⟩, ?_⟩
          · match i, hi with
            | 0, _ => show (ly 0 ++ [1]).length = n' + 1; rw [List.length_append, hly 0 (by omega)]; rfl
            | 1, _ => show (ly 1 ++ [1]).length = n' + 1; rw [List.length_append, hly 1 (by omega)]; rfl
            | 2, _ => show (ly 2 ++ [1]).length = n' + 1; rw [List.length_append, hly 2 (by omega)]; rfl
            | 3, _ => show (ly 3 ++ [1]).length = n' + 1; rw [List.length_append, hly 3 (by omega)]; rfl
          · rw [z0, lv]
            show 9 - ((ly 0).length + 1) < 9 - n'
            rw [hly 0 (by omega)]
            omega
        · obtain ⟨M9, m1, u0, u1, u2, u3, m2, m3, m4⟩ := sy.fin hid hcb (fun i hi => by rw [hly i hi]; omega)
          simp (config := {implicitDefEqProofs := false, maxDischargeDepth := 20}) (disch := first | omega | (simp only [lenE]; done) | (simp only [lenE]; omega) | rfl | (simp only [lenE, markR_len]; done) | (simp only [lenE, markR_len]; omega)) only [runE, mapE, listE, initT_5, initT_6, initT_7, initT_8, resV, oneV, binA, unA, reduceCtorEq, Nat.reduceEqDiff, Nat.reduceAdd, Nat.reduceLT, Nat.reduceLeDiff, Nat.reduceMul, Nat.reduceSub, ↓reduceIte, decide_true, decide_false, Bool.true_eq_false, Bool.false_eq_true, Bool.not_true, Bool.not_false, if_true, if_false, and_true, true_and, memE, celE, w64, Nat.zero_add, Nat.add_zero, Nat.mul_one, putL, and_self, ldn, t4, t6, tm, q0, q1, q2, q3, l0, h9, stP_aggL, m1, u0, u1, u2, u3]
          exact ⟨⟨_, _, _, _⟩, ⟨m2.1, m2.2⟩, m3, a7, by omega, m4⟩
      obtain ⟨M9, m1, u0, u1, u2, u3, m2, m3, m4⟩ := s7.fin hid hcb (fun i hi => by rw [hlen i hi]; omega)
      simp (config := {implicitDefEqProofs := false, maxDischargeDepth := 20}) (disch := first | omega | (simp only [lenE]; done) | (simp only [lenE]; omega) | rfl | (simp only [lenE, markR_len]; done) | (simp only [lenE, markR_len]; omega)) only [runE, mapE, listE, initT_5, initT_6, initT_7, initT_8, resV, oneV, binA, unA, reduceCtorEq, Nat.reduceEqDiff, Nat.reduceAdd, Nat.reduceLT, Nat.reduceLeDiff, Nat.reduceMul, Nat.reduceSub, ↓reduceIte, decide_true, decide_false, Bool.true_eq_false, Bool.false_eq_true, Bool.not_true, Bool.not_false, if_true, if_false, and_true, true_and, memE, celE, w64, Nat.zero_add, Nat.add_zero, Nat.mul_one, putL, and_self, ldn, t0, t4, t5, t6, ne 0 x0, ne 1 x1, ne 2 x2, ne 3 x3, ne 4 x4, ne 5 x5, q0, q1, q2, q3, stP_aggL, m1, u0, u1, u2, u3]
      exact ⟨⟨_, _, _, _⟩, ⟨m2.1, m2.2⟩, m3, a7, by omega, m4⟩
    · obtain ⟨M9, m1, u0, u1, u2, u3, m2, m3, m4⟩ := st.fin hid hcb fun i hi => by rw [hlen i hi]; omega
      simp (config := {implicitDefEqProofs := false, maxDischargeDepth := 20}) (disch := first | omega | (simp only [lenE]; done) | (simp only [lenE]; omega) | rfl | (simp only [lenE, markR_len]; done) | (simp only [lenE, markR_len]; omega)) only [runE, mapE, listE, initT_5, initT_6, initT_7, initT_8, resV, oneV, binA, unA, reduceCtorEq, Nat.reduceEqDiff, Nat.reduceAdd, Nat.reduceLT, Nat.reduceLeDiff, Nat.reduceMul, Nat.reduceSub, ↓reduceIte, decide_true, decide_false, Bool.true_eq_false, Bool.false_eq_true, Bool.not_true, Bool.not_false, if_true, if_false, and_true, true_and, memE, celE, w64, Nat.zero_add, Nat.add_zero, Nat.mul_one, putL, and_self, ldn, t4, t6, tm, hN0, q0, q1, q2, q3, stP_aggL, m1, u0, u1, u2, u3]
      exact ⟨⟨_, _, _, _⟩, ⟨m2.1, m2.2⟩, m3, ax, by omega, m4⟩
theorem IntsA.one {M : Mem} {v : Value} {l : List Int} (h : IntsA M v l) : v.oneCell' = true := by
  have := h.src
  unfold slR at this
  split at this <;> first | rfl | cases this
theorem lots_ac (M : Mem) (cb id a : Nat) (l : List Int) (h : CurA M cb l id a) (ha : a ≤ 999000000) :
    AC Try.prog 33 [.pointer (some ⟨id, 0, none⟩)] M fun r M' => ∃ k : Cs, (k.need.length ≤ 1000 ∧ Lives M.length M' r k) ∧ Cw id M M' ∧ ∃ a', a' ≤ a + 1000 ∧ CurA M' cb l id a' := by
  refine ac_of_run mixed ok_spec_l1Cur__lots (by simp) (go_start _ _ _ ?_)
  have hid := h.lt
  have hcb : cb < M.length := (List.getElem?_eq_some_iff.1 h.code).1
  simp (config := {implicitDefEqProofs := false, maxDischargeDepth := 20}) (disch := first | omega | (simp only [lenE]; done) | (simp only [lenE]; omega) | rfl | (simp only [lenE, markR_len]; done) | (simp only [lenE, markR_len]; omega)) only [runE, mapE, listE, initT_5, initT_6, initT_7, initT_8, resV, oneV, binA, unA, reduceCtorEq, Nat.reduceEqDiff, Nat.reduceAdd, Nat.reduceLT, Nat.reduceLeDiff, Nat.reduceMul, Nat.reduceSub, ↓reduceIte, decide_true, decide_false, Bool.true_eq_false, Bool.false_eq_true, Bool.not_true, Bool.not_false, if_true, if_false, and_true, true_and, memE, celE, w64, Nat.zero_add, Nat.add_zero, Nat.mul_one, putL, and_self, ldn, c_spec_l1Cur__lots, r_spec_l1Cur__lots]
  refine callH_ac (someLots_ac _ cb id a l 8 (h.ext _) ha (by omega)) ?_
  rintro r M1 ⟨k, ⟨hsm, lv⟩, w1, a1, ha1, k1⟩
  obtain ⟨v1, v2, v3, v4, rfl, i1, i2, i3, i4⟩ := lv.here.ok
  have hres : M1[M.length]? = some ⟨.own, 26, [.slice none 0 0, .slice none 0 0, .slice none 0 0, .slice none 0 0]⟩ := (w1.old M.length (by omega) (by simp)).trans (by simp)
  have hlt := (List.getElem?_eq_some_iff.1 hres).1
  have hs : stA M1 M.length 0 [v1, v2, v3, v4] = some (M1.set M.length ⟨.own, 26, [v1, v2, v3, v4]⟩) := by
    unfold stA
    rw [hres]
    simp [onesB, i1.one, i2.one, i3.one, i4.one, putL]
  have self : (M1.set M.length ⟨.own, 26, [v1, v2, v3, v4]⟩)[M.length]? = some ⟨.own, 26, [v1, v2, v3, v4]⟩ := List.getElem?_set_self hlt
  have low : ∀ i, i ≠ M.length → (M1.set M.length ⟨.own, 26, [v1, v2, v3, v4]⟩)[i]? = M1[i]? := fun i hi => List.getElem?_set_ne (Ne.symm hi)
  have r0 : rdc (M1.set M.length ⟨.own, 26, [v1, v2, v3, v4]⟩) M.length 0 = some v1 := by unfold rdc; rw [self]; rfl
  have r1 : rdc (M1.set M.length ⟨.own, 26, [v1, v2, v3, v4]⟩) M.length 1 = some v2 := by unfold rdc; rw [self]; rfl
  have r2 : rdc (M1.set M.length ⟨.own, 26, [v1, v2, v3, v4]⟩) M.length 2 = some v3 := by unfold rdc; rw [self]; rfl
  have r3 : rdc (M1.set M.length ⟨.own, 26, [v1, v2, v3, v4]⟩) M.length 3 = some v4 := by unfold rdc; rw [self]; rfl
  obtain ⟨M2, hM2⟩ : ∃ M2, M2 = M1.set M.length ⟨.own, 26, [v1, v2, v3, v4]⟩ := ⟨_, rfl⟩
  rw [← hM2] at hs self low r0 r1 r2 r3
  have w0 := w1.pre (noRo_own noRo_nil) hid
  simp (config := {implicitDefEqProofs := false, maxDischargeDepth := 20}) (disch := first | omega | (simp only [lenE]; done) | (simp only [lenE]; omega) | rfl | (simp only [lenE, markR_len]; done) | (simp only [lenE, markR_len]; omega)) only [runE, mapE, listE, initT_5, initT_6, initT_7, initT_8, resV, oneV, binA, unA, reduceCtorEq, Nat.reduceEqDiff, Nat.reduceAdd, Nat.reduceLT, Nat.reduceLeDiff, Nat.reduceMul, Nat.reduceSub, ↓reduceIte, decide_true, decide_false, Bool.true_eq_false, Bool.false_eq_true, Bool.not_true, Bool.not_false, if_true, if_false, and_true, true_and, memE, celE, w64, Nat.zero_add, Nat.add_zero, Nat.mul_one, putL, and_self, ldn, stP_aggL, hs, r0, r1, r2, r3]
  refine ⟨k, ⟨hsm, fun M3 h3 => lv M3 fun i q1 q2 => ?_⟩, ⟨by rw [hM2]; have := w0.len; simpa using this, fun i e hi => (low i (by omega)).trans (w0.old i e hi), fun i bk hi hb => ?_⟩, a1, ha1, ?_⟩
  · have q1 : M.length + 1 ≤ i := by simpa using q1
    rw [h3 i (by omega) (by rw [hM2]; simpa using q2), low i (by omega)]
  · by_cases e : i = M.length
    · subst e
      rw [self] at hb
      cases hb
      simp
    · rw [low i e] at hb
      exact w0.new i bk hi hb
  · obtain ⟨seed, hb⟩ := k1.box
    exact ⟨(low cb (by omega)).trans k1.code, k1.byte, k1.few, seed, (low id (by omega)).trans hb⟩
end Go.Proofs.Ytibkaclkaigflaa.Ab
end
section
namespace Go.Proofs.Ytibkaclkaigflaa.Ab
open Go Go.RowKit Go.Proofs
set_option maxRecDepth 100000
def c_spec_LastOrders : ACode := .seq (.reg [⟨(some 1), .box 26 (.tmp 0), none⟩,
  ⟨(some 2), .mv (.const (.slice none 0 0)), none⟩,
  ⟨(some 3), .mv (.const (.bool false)), none⟩])
 (.seq (.seq (.reg [⟨(some 6), .ld (some 4) (.tmp 1), none⟩,
  ⟨(some 7), .call (.func 22) [(.tmp 6)], none⟩,
  ⟨(some 8), .un .not (.tmp 7), none⟩])
 (.cond (.tmp 8) (.seq (.reg [⟨(some 9), .bsl 3 1 0 [] [], none⟩,
  ⟨(some 2), .mv (.tmp 9), none⟩,
  ⟨(some 3), .mv (.const (.bool false)), none⟩])
 (.ret)) (.skip)))
 (.seq (.reg [⟨(some 11), .ld (some 4) (.tmp 1), none⟩,
  ⟨(some 12), .call (.func 23) [(.tmp 11)], none⟩,
  ⟨(some 10), .mv (.tmp 12), none⟩,
  ⟨(some 13), .ext 0 (.tmp 10), none⟩,
  ⟨(some 14), .ext 1 (.tmp 10), none⟩,
  ⟨(some 4), .mv (.tmp 13), none⟩,
  ⟨(some 5), .mv (.tmp 14), none⟩])
 (.seq (.reg [⟨(some 15), .mv (.tmp 5), none⟩,
  ⟨(some 2), .mv (.tmp 15), none⟩,
  ⟨(some 3), .mv (.const (.bool true)), none⟩])
 (.ret))))
def r_spec_LastOrders : List ARes := [.tmp 2, .tmp 3]
theorem ok_spec_LastOrders : FnOk Try.prog 9 16 c_spec_LastOrders r_spec_LastOrders := ⟨⟨Try.f9, _, Try.func9, by kernel_rfl, rfl, rfl, by kernel_rfl, by kernel_rfl⟩⟩
end Go.Proofs.Ytibkaclkaigflaa.Ab
end
section
namespace Go.Proofs.Ytibkaclkaigflaa.Ab
open Go Go.RowKit
set_option linter.unusedVariables false
set_option linter.unusedSimpArgs false
theorem app_all {M : Mem} {l0 l : List Int} {id : Nat} {v : Value} (h : OwnR M id l0) (hi : IntsA M v l) (hb : l0.length + l.length ≤ 1048576) :
    appP M 3 1 8 (.slice (some ⟨id, 0, none⟩) l0.length 1) v = some (.slice (some ⟨M.length, 0, none⟩) (l0.length + l.length) 1, M.set id deadB ++ [⟨.own, 3, (l0 ++ l).map (Value.int .i64)⟩]) := by
  unfold appP
  rw [hi.src]
  simp only [onesB_ints, if_true, appA, hi.lenOf]
  rw [show M[id]? = some (rowB l0) from h]
  simp only [List.length_map, Nat.mul_one, true_and]
  rw [if_pos (by omega)]
  simp
def waitAt (k : Cs) (j : Nat) : Bool := decide (¬ (k.unit.getD j 0 + k.hold.getD j 0 < k.unit.getD (j + 1) 0))
def waitsB (k : Cs) : Bool := (List.range (k.need.length - 1)).all (waitAt k)
theorem waits_yes {k : Cs} (h : ∀ j, j < k.need.length - 1 → waitAt k j = true) : waitsB k = true := by
  unfold waitsB; rw [List.all_eq_true]; intro j hj; exact h j (List.mem_range.1 hj)
theorem waits_no {k : Cs} {j : Nat} (hj : j < k.need.length - 1) (h : waitAt k j = false) : waitsB k = false := by
  cases hr : waitsB k with
  | false => rfl
  | true => unfold waitsB at hr; rw [List.all_eq_true] at hr; rw [hr j (List.mem_range.2 hj)] at h; cases h

theorem implWaits_rc (m : Mem) (v : Value) (k : Cs) (h : CaseA m v k) : RC Try.prog 16 [v] m (AnsV (.tuple #[.bool (k.good && waitsB k), .bool k.good])) := by
  refine rc_of_run mixed ok_impl_WaitsNever (by simp) (go_start _ _ _ ?_)
  obtain ⟨v1, v2, v3, v4, rfl, h1, h2, h3, h4⟩ := h.ro.ok
  simp (config := {implicitDefEqProofs := false, maxDischargeDepth := 20}) (disch := first | omega | (simp only [lenE]; done) | (simp only [lenE]; omega) | rfl | (simp only [lenE, markR_len]; done) | (simp only [lenE, markR_len]; omega)) only [runE, mapE, listE, initT_5, initT_6, initT_7, initT_8, resV, oneV, binA, unA, reduceCtorEq, Nat.reduceEqDiff, Nat.reduceAdd, Nat.reduceLT, Nat.reduceLeDiff, Nat.reduceMul, Nat.reduceSub, ↓reduceIte, decide_true, decide_false, Bool.true_eq_false, Bool.false_eq_true, Bool.not_true, Bool.not_false, if_true, if_false, and_true, true_and, memE, celE, w64, Nat.zero_add, Nat.add_zero, Nat.mul_one, putL, and_self, ldn, c_impl_WaitsNever, r_impl_WaitsNever]
  refine callH_rc (implIsCase_rc _ _ k ⟨_, _, _, _, rfl, h1.ext _, h2.ext _, h3.ext _, h4.ext _⟩) ?_
  rintro r new ⟨rfl, nr1⟩
  have hx : Ext m (roM m ++ [⟨.own, 26, [v1, v2, v3, v4]⟩] ++ new) := ((Ext.refl m).one _ _).app nr1
  cases hg : k.good with
  | false =>
    simp (config := {implicitDefEqProofs := false, maxDischargeDepth := 20}) (disch := first | omega | (simp only [lenE]; done) | (simp only [lenE]; omega) | rfl | (simp only [lenE, markR_len]; done) | (simp only [lenE, markR_len]; omega)) only [runE, mapE, listE, initT_5, initT_6, initT_7, initT_8, resV, oneV, binA, unA, reduceCtorEq, Nat.reduceEqDiff, Nat.reduceAdd, Nat.reduceLT, Nat.reduceLeDiff, Nat.reduceMul, Nat.reduceSub, ↓reduceIte, decide_true, decide_false, Bool.true_eq_false, Bool.false_eq_true, Bool.not_true, Bool.not_false, if_true, if_false, and_true, true_and, memE, celE, w64, Nat.zero_add, Nat.add_zero, Nat.mul_one, putL, and_self, ldn]
    exact ext_ansV hx rfl
  | true =>
    have gd := good_iff.1 hg
    have h8 := gd.n8
    have g1 := gd.lu
    have g2 := gd.lh
    obtain ⟨d1, d2, d3, d4, -⟩ := (h3.ext [⟨.own, 26, [v1, v2, v3, v4]⟩]).ext new
    obtain ⟨c1, c2, c3, c4, -⟩ := (h4.ext [⟨.own, 26, [v1, v2, v3, v4]⟩]).ext new
    simp (config := {implicitDefEqProofs := false, maxDischargeDepth := 20}) (disch := first | omega | (simp only [lenE]; done) | (simp only [lenE]; omega) | rfl | (simp only [lenE, markR_len]; done) | (simp only [lenE, markR_len]; omega)) only [runE, mapE, listE, initT_5, initT_6, initT_7, initT_8, resV, oneV, binA, unA, reduceCtorEq, Nat.reduceEqDiff, Nat.reduceAdd, Nat.reduceLT, Nat.reduceLeDiff, Nat.reduceMul, Nat.reduceSub, ↓reduceIte, decide_true, decide_false, Bool.true_eq_false, Bool.false_eq_true, Bool.not_true, Bool.not_false, if_true, if_false, and_true, true_and, memE, celE, w64, Nat.zero_add, Nat.add_zero, Nat.mul_one, putL, and_self, ldn]
    refine loop_inv mixed (fun s => ∃ t : Nat, (t + 1 ≤ k.need.length ∨ t = 0) ∧ s.t 1 = .pointer (some ⟨m.length, 0, none⟩) ∧ s.t 4 = .int .i64 ((t : Int) + 1) ∧ s.m = roM m ++ [⟨.own, 26, [v1, v2, v3, v4]⟩] ++ new ∧ ∀ j, j < t → waitAt k j = true) (fun s => k.need.length - (intOf (s.t 4)).toNat) ⟨0, by omega, rfl, rfl, rfl, fun j hj => absurd hj (by omega)⟩ ?_
    rintro s ⟨t, hk, t1, t4, tm, hall⟩
    have hsz : (t : Int) + 1 ≤ 100 := by omega
    by_cases hlt : t + 1 < k.need.length
    · have hlt' : (t : Int) + 1 < k.unit.length := by omega
      have q1 := getD_in gd.unit (k := t) (by omega)
      have q2 := getD_in gd.hold (k := t) (by omega)
      have d3' := d3 (t + 1) (by omega)
      rw [show ((t + 1 : Nat) : Int) = (t : Int) + 1 by omega] at d3'
      have es : (t : Int) + 1 - 1 = t := by omega
      by_cases hb : k.unit.getD t 0 + k.hold.getD t 0 < k.unit.getD (t + 1) 0
      · simp (config := {implicitDefEqProofs := false, maxDischargeDepth := 20}) (disch := first | omega | (simp only [lenE]; done) | (simp only [lenE]; omega) | rfl | (simp only [lenE, markR_len]; done) | (simp only [lenE, markR_len]; omega)) only [runE, mapE, listE, initT_5, initT_6, initT_7, initT_8, resV, oneV, binA, unA, reduceCtorEq, Nat.reduceEqDiff, Nat.reduceAdd, Nat.reduceLT, Nat.reduceLeDiff, Nat.reduceMul, Nat.reduceSub, ↓reduceIte, decide_true, decide_false, Bool.true_eq_false, Bool.false_eq_true, Bool.not_true, Bool.not_false, if_true, if_false, and_true, true_and, memE, celE, w64, Nat.zero_add, Nat.add_zero, Nat.mul_one, putL, and_self, ldn, t1, t4, tm, d1, es, hlt', d3 t (by omega), d4 t (by omega), c3 t (by omega), c4 t (by omega), d3', d4 (t + 1) (by omega), hb]
        refine ext_ansV hx ?_
        rw [waits_no (j := t) (by omega) (by unfold waitAt; exact decide_eq_false (fun h => h hb))]; rfl
      · simp (config := {implicitDefEqProofs := false, maxDischargeDepth := 20}) (disch := first | omega | (simp only [lenE]; done) | (simp only [lenE]; omega) | rfl | (simp only [lenE, markR_len]; done) | (simp only [lenE, markR_len]; omega)) only [runE, mapE, listE, initT_5, initT_6, initT_7, initT_8, resV, oneV, binA, unA, reduceCtorEq, Nat.reduceEqDiff, Nat.reduceAdd, Nat.reduceLT, Nat.reduceLeDiff, Nat.reduceMul, Nat.reduceSub, ↓reduceIte, decide_true, decide_false, Bool.true_eq_false, Bool.false_eq_true, Bool.not_true, Bool.not_false, if_true, if_false, and_true, true_and, memE, celE, w64, Nat.zero_add, Nat.add_zero, Nat.mul_one, putL, and_self, ldn, t1, t4, tm, d1, es, hlt', d3 t (by omega), d4 t (by omega), c3 t (by omega), c4 t (by omega), d3', d4 (t + 1) (by omega), hb]
        refine ⟨⟨t + 1, by omega, by simp, fun j hj => ?_⟩, ?_⟩
        · by_cases e : j = t
          · subst e; unfold waitAt; exact decide_eq_true hb
          · exact hall j (by omega)
        · simp [intOf]; omega
    · have hlt' : ¬ ((t : Int) + 1 < k.unit.length) := by omega
      simp (config := {implicitDefEqProofs := false, maxDischargeDepth := 20}) (disch := first | omega | (simp only [lenE]; done) | (simp only [lenE]; omega) | rfl | (simp only [lenE, markR_len]; done) | (simp only [lenE, markR_len]; omega)) only [runE, mapE, listE, initT_5, initT_6, initT_7, initT_8, resV, oneV, binA, unA, reduceCtorEq, Nat.reduceEqDiff, Nat.reduceAdd, Nat.reduceLT, Nat.reduceLeDiff, Nat.reduceMul, Nat.reduceSub, ↓reduceIte, decide_true, decide_false, Bool.true_eq_false, Bool.false_eq_true, Bool.not_true, Bool.not_false, if_true, if_false, and_true, true_and, memE, celE, w64, Nat.zero_add, Nat.add_zero, Nat.mul_one, putL, and_self, ldn, t1, t4, tm, d1, hlt']
      refine ext_ansV hx ?_
      rw [waits_yes fun j hj => hall j (by omega)]; rfl
end Go.Proofs.Ytibkaclkaigflaa.Ab
end
section
namespace Go.Proofs.Ytibkaclkaigflaa.Ab
open Go Go.RowKit
set_option linter.unusedVariables false
set_option linter.unusedSimpArgs false
theorem cSet_s (k : Cs) (plan : List Int) (t : Nat) : cSet k plan (t + 1) = if 0 < plan.getD t 0 then cSet k plan t + k.setup.getD t 0 else cSet k plan t := rfl
theorem cUnit_s (k : Cs) (plan : List Int) (t : Nat) : cUnit k plan (t + 1) = cUnit k plan t + k.unit.getD t 0 * plan.getD t 0 := rfl
theorem cHold_s (k : Cs) (plan : List Int) (t : Nat) : cHold k plan (t + 1) = cHold k plan t + k.hold.getD t 0 * stk plan k.need t := rfl
theorem cost_bounds {k : Cs} {plan : List Int} (hg : Good k) (hp : ∀ x ∈ plan, 0 ≤ x ∧ x ≤ 160) (t : Nat) (ht : t ≤ 8) :
    (0 ≤ cSet k plan t ∧ cSet k plan t ≤ 1000) ∧ (0 ≤ cUnit k plan t ∧ cUnit k plan t ≤ 20000) ∧ (-20000 ≤ cHold k plan t ∧ cHold k plan t ≤ 200000) := by
  have h1 := cSet_bound (plan := plan) hg t
  have h2 := cUnit_bound hg hp t
  have h3 := cHold_bound hg hp t (by omega)
  refine ⟨⟨h1.1, by omega⟩, ⟨h2.1, by omega⟩, by omega, by omega⟩
theorem prod_bounds {k : Cs} {plan : List Int} (hg : Good k) (hp : ∀ x ∈ plan, 0 ≤ x ∧ x ≤ 160) (t : Nat) (ht : t < 8) :
    (0 ≤ k.unit.getD t 0 * plan.getD t 0 ∧ k.unit.getD t 0 * plan.getD t 0 ≤ 1440) ∧ (-1620 ≤ k.hold.getD t 0 * stk plan k.need t ∧ k.hold.getD t 0 * stk plan k.need t ≤ 12960) := by
  have h1 := getD_bound (m := 9) (by omega) hg.unit t
  have h2 := getD_bound (m := 160) (by omega) hp t
  have h3 := getD_bound (m := 9) (by omega) hg.hold t
  have h4 := stk_bound hg hp t (by omega)
  refine ⟨mul_bound h1.1 h1.2 h2.1 h2.2, ?_⟩
  rcases Int.le_total 0 (stk plan k.need t) with h | h
  · have := mul_bound h3.1 h3.2 h h4.2
    omega
  · have := mul_bound h3.1 h3.2 (b := - stk plan k.need t) (n := 180) (by omega) (by omega)
    rw [Int.mul_neg] at this
    omega
theorem bld_nil (z : List Value) : bldA z [] = some (.agg z.toArray) := rfl

theorem costOf_def (k : Cs) (plan : List Int) : costOf k plan = cSet k plan plan.length + cUnit k plan plan.length + cHold k plan plan.length := rfl
def costA (k : Cs) (plan : List Int) : Int := if two k plan then costOf k plan else 0
def partA (f : Cs → List Int → Nat → Int) (k : Cs) (plan : List Int) : Int := if two k plan then f k plan plan.length else 0
theorem partA_no (f : Cs → List Int → Nat → Int) {k : Cs} {plan : List Int} (h : two k plan = false) : partA f k plan = 0 := by unfold partA; rw [h]; rfl
theorem partA_yes (f : Cs → List Int → Nat → Int) {k : Cs} {plan : List Int} (h : two k plan = true) : partA f k plan = f k plan plan.length := by unfold partA; rw [h]; rfl
theorem costA_no {k : Cs} {plan : List Int} (h : two k plan = false) : costA k plan = 0 := by unfold costA; rw [h]; rfl
theorem costA_yes {k : Cs} {plan : List Int} (h : two k plan = true) : costA k plan = costOf k plan := by unfold costA; rw [h]; rfl
theorem implCostParts_rc (m : Mem) (v u : Value) (k : Cs) (plan : List Int) (h : CaseA m v k) (h' : IntsA m u plan) :
    RC Try.prog 28 [v, u] m (AnsV (.tuple #[.int .i64 (partA cSet k plan), .int .i64 (partA cUnit k plan), .int .i64 (partA cHold k plan), .bool (two k plan)])) := by
  refine rc_of_run mixed ok_impl_CostParts (by simp) (go_start _ _ _ ?_)
  obtain ⟨v1, v2, v3, v4, rfl, h1, h2, h3, h4⟩ := h.ro.ok
  have hu := h'.ro
  simp (config := {implicitDefEqProofs := false, maxDischargeDepth := 20}) (disch := first | omega | (simp only [lenE]; done) | (simp only [lenE]; omega) | rfl | (simp only [lenE, markR_len]; done) | (simp only [lenE, markR_len]; omega)) only [runE, mapE, listE, initT_5, initT_6, initT_7, initT_8, resV, oneV, binA, unA, reduceCtorEq, Nat.reduceEqDiff, Nat.reduceAdd, Nat.reduceLT, Nat.reduceLeDiff, Nat.reduceMul, Nat.reduceSub, ↓reduceIte, decide_true, decide_false, Bool.true_eq_false, Bool.false_eq_true, Bool.not_true, Bool.not_false, if_true, if_false, and_true, true_and, memE, celE, w64, Nat.zero_add, Nat.add_zero, Nat.mul_one, putL, and_self, ldn, c_impl_CostParts, r_impl_CostParts]
  refine callH_rc (implStocksOf_rc _ _ u k plan ⟨_, _, _, _, rfl, h1.ext _, h2.ext _, h3.ext _, h4.ext _⟩ (hu.ext _)) ?_
  intro r new hA
  obtain ⟨sid, fl, rfl, hge, hown, hle, nr⟩ := hA.row
  have hx : Ext m (roM m ++ [⟨.own, 26, [v1, v2, v3, v4]⟩] ++ new) := ((Ext.refl m).one _ _).app nr
  unfold partA
  cases hg : two k plan with
  | false =>
    simp (config := {implicitDefEqProofs := false, maxDischargeDepth := 20}) (disch := first | omega | (simp only [lenE]; done) | (simp only [lenE]; omega) | rfl | (simp only [lenE, markR_len]; done) | (simp only [lenE, markR_len]; omega)) only [runE, mapE, listE, initT_5, initT_6, initT_7, initT_8, resV, oneV, binA, unA, reduceCtorEq, Nat.reduceEqDiff, Nat.reduceAdd, Nat.reduceLT, Nat.reduceLeDiff, Nat.reduceMul, Nat.reduceSub, ↓reduceIte, decide_true, decide_false, Bool.true_eq_false, Bool.false_eq_true, Bool.not_true, Bool.not_false, if_true, if_false, and_true, true_and, memE, celE, w64, Nat.zero_add, Nat.add_zero, Nat.mul_one, putL, and_self, ldn, ext_2_0, ext_2_1]
    exact ext_ansV hx rfl
  | true =>
    obtain ⟨b1, hl, hp⟩ := two_bounds hg
    have h8 := b1.n8
    rw [stocksA_yes hg] at *
    have hsl := stocksL_len plan k.need
    have hat : ∀ t, t < plan.length → (stocksL plan k.need).getD t 0 = stk plan k.need t := fun t ht => stocksL_at ht
    generalize stocksL plan k.need = st at *
    obtain ⟨e1, e2, e3, e4, -⟩ := hown.ints (by omega) fl
    simp (config := {implicitDefEqProofs := false, maxDischargeDepth := 20}) (disch := first | omega | (simp only [lenE]; done) | (simp only [lenE]; omega) | rfl | (simp only [lenE, markR_len]; done) | (simp only [lenE, markR_len]; omega)) only [runE, mapE, listE, initT_5, initT_6, initT_7, initT_8, resV, oneV, binA, unA, reduceCtorEq, Nat.reduceEqDiff, Nat.reduceAdd, Nat.reduceLT, Nat.reduceLeDiff, Nat.reduceMul, Nat.reduceSub, ↓reduceIte, decide_true, decide_false, Bool.true_eq_false, Bool.false_eq_true, Bool.not_true, Bool.not_false, if_true, if_false, and_true, true_and, memE, celE, w64, Nat.zero_add, Nat.add_zero, Nat.mul_one, putL, and_self, ldn, ext_2_0, ext_2_1, hu.len]
    refine loop_inv mixed (fun s => ∃ t : Nat, t ≤ plan.length ∧ s.t 2 = .pointer (some ⟨m.length, 0, none⟩) ∧ s.t 8 = .slice (some ⟨sid, 0, none⟩) st.length fl ∧ s.t 10 = .int .i64 (cSet k plan t) ∧ s.t 11 = .int .i64 (cUnit k plan t) ∧ s.t 12 = .int .i64 (cHold k plan t) ∧ s.t 23 = u ∧ s.t 24 = .int .i64 plan.length ∧ s.t 25 = .int .i64 t ∧
      s.m = roM m ++ [⟨.own, 26, [v1, v2, v3, v4]⟩] ++ new) (fun s => plan.length - (intOf (s.t 25)).toNat)
      ⟨0, by omega, rfl, rfl, rfl, rfl, rfl, rfl, rfl, rfl, rfl⟩ ?_
    rintro s ⟨t, hk, t2, t8, t10, t11, t12, t23, t24, t25, tm⟩
    by_cases hlt : t < plan.length
    · have hlt' : (t : Int) < plan.length := by omega
      have q4 := e4 t (by omega)
      rw [hat t hlt] at q4
      have cb := cost_bounds b1 hp t (by omega)
      have pb := prod_bounds b1 hp t (by omega)
      have sb := getD_bound (m := 99) (by omega) b1.setup t
      by_cases hb : 0 < plan.getD t 0
      · simp (config := {implicitDefEqProofs := false, maxDischargeDepth := 20}) (disch := first | omega | (simp only [lenE]; done) | (simp only [lenE]; omega) | rfl | (simp only [lenE, markR_len]; done) | (simp only [lenE, markR_len]; omega)) only [runE, mapE, listE, initT_5, initT_6, initT_7, initT_8, resV, oneV, binA, unA, reduceCtorEq, Nat.reduceEqDiff, Nat.reduceAdd, Nat.reduceLT, Nat.reduceLeDiff, Nat.reduceMul, Nat.reduceSub, ↓reduceIte, decide_true, decide_false, Bool.true_eq_false, Bool.false_eq_true, Bool.not_true, Bool.not_false, if_true, if_false, and_true, true_and, memE, celE, w64, Nat.zero_add, Nat.add_zero, Nat.mul_one, putL, and_self, ldn, t2, t8, t10, t11, t12, t23, t24, t25, tm, hu.at_ t hlt, ((hu.ext [_]).ext new).ld t hlt, hlt', gt_iff_lt, hb, h2.at_ t (by rw [b1.ls]; omega), ((h2.ext [_]).ext new).ld t (by rw [b1.ls]; omega), h3.at_ t (by rw [b1.lu]; omega), ((h3.ext [_]).ext new).ld t (by rw [b1.lu]; omega), h4.at_ t (by rw [b1.lh]; omega), ((h4.ext [_]).ext new).ld t (by rw [b1.lh]; omega), e3 t (by omega), q4]
        exact ⟨⟨t + 1, by omega, by rw [cSet_s, if_pos hb], by rw [cUnit_s], by rw [cHold_s], by simp⟩, by simp [intOf]; omega⟩
      · simp (config := {implicitDefEqProofs := false, maxDischargeDepth := 20}) (disch := first | omega | (simp only [lenE]; done) | (simp only [lenE]; omega) | rfl | (simp only [lenE, markR_len]; done) | (simp only [lenE, markR_len]; omega)) only [runE, mapE, listE, initT_5, initT_6, initT_7, initT_8, resV, oneV, binA, unA, reduceCtorEq, Nat.reduceEqDiff, Nat.reduceAdd, Nat.reduceLT, Nat.reduceLeDiff, Nat.reduceMul, Nat.reduceSub, ↓reduceIte, decide_true, decide_false, Bool.true_eq_false, Bool.false_eq_true, Bool.not_true, Bool.not_false, if_true, if_false, and_true, true_and, memE, celE, w64, Nat.zero_add, Nat.add_zero, Nat.mul_one, putL, and_self, ldn, t2, t8, t10, t11, t12, t23, t24, t25, tm, hu.at_ t hlt, ((hu.ext [_]).ext new).ld t hlt, hlt', gt_iff_lt, hb, h3.at_ t (by rw [b1.lu]; omega), ((h3.ext [_]).ext new).ld t (by rw [b1.lu]; omega), h4.at_ t (by rw [b1.lh]; omega), ((h4.ext [_]).ext new).ld t (by rw [b1.lh]; omega), e3 t (by omega), q4]
        exact ⟨⟨t + 1, by omega, by rw [cSet_s, if_neg hb], by rw [cUnit_s], by rw [cHold_s], by simp⟩, by simp [intOf]; omega⟩
    · have hlt' : ¬ ((t : Int) < plan.length) := by omega
      have e : t = plan.length := by omega
      subst e
      simp (config := {implicitDefEqProofs := false, maxDischargeDepth := 20}) (disch := first | omega | (simp only [lenE]; done) | (simp only [lenE]; omega) | rfl | (simp only [lenE, markR_len]; done) | (simp only [lenE, markR_len]; omega)) only [runE, mapE, listE, initT_5, initT_6, initT_7, initT_8, resV, oneV, binA, unA, reduceCtorEq, Nat.reduceEqDiff, Nat.reduceAdd, Nat.reduceLT, Nat.reduceLeDiff, Nat.reduceMul, Nat.reduceSub, ↓reduceIte, decide_true, decide_false, Bool.true_eq_false, Bool.false_eq_true, Bool.not_true, Bool.not_false, if_true, if_false, and_true, true_and, memE, celE, w64, Nat.zero_add, Nat.add_zero, Nat.mul_one, putL, and_self, ldn, t2, t8, t10, t11, t12, t23, t24, t25, tm, hlt']
      exact ext_ansV hx rfl

end Go.Proofs.Ytibkaclkaigflaa.Ab
end
section
namespace Go.Proofs.Ytibkaclkaigflaa
set_option linter.unusedVariables false
set_option linter.unusedSimpArgs false
theorem sumTo_g (l : List Int) (k : Nat) : sumTo l (k + 1) = sumTo l k + l.getD k 0 := by
  by_cases h : k < l.length
  · rw [sumTo_succ (List.getElem?_eq_getElem h), List.getD_eq_getElem?_getD, List.getElem?_eq_getElem h]; rfl
  · rw [sumTo_all (by omega), sumTo_all (by omega), List.getD_eq_getElem?_getD, List.getElem?_eq_none (by omega)]; simp
def sumR (l : List Int) (i j : Nat) : Int := sumTo l j - sumTo l i
theorem sumR_self (l : List Int) (i : Nat) : sumR l i i = 0 := by unfold sumR; omega
theorem sumR_s (l : List Int) (i j : Nat) : sumR l i (j + 1) = sumR l i j + l.getD j 0 := by unfold sumR; rw [sumTo_g]; omega
theorem sumR_h (l : List Int) (i j : Nat) : sumR l i j = l.getD i 0 + sumR l (i + 1) j := by unfold sumR; rw [sumTo_g]; omega
theorem sumR_add (l : List Int) (i j h : Nat) : sumR l i j + sumR l j h = sumR l i h := by unfold sumR; omega
theorem sumR_in {l : List Int} {m : Int} (hm : 0 ≤ m) (h : ∀ x ∈ l, 0 ≤ x ∧ x ≤ m) (i d : Nat) : 0 ≤ sumR l i (i + d) ∧ sumR l i (i + d) ≤ m * d := by
  induction d with
  | zero => rw [Nat.add_zero, sumR_self]; simp
  | succ d ih =>
    have := getD_bound hm h (i + d)
    rw [← Nat.add_assoc, sumR_s]
    have : m * ((d + 1 : Nat) : Int) = m * d + m := by rw [Int.natCast_add, Int.mul_add]; simp
    omega
theorem sumR_nn {l : List Int} {m : Int} (hm : 0 ≤ m) (h : ∀ x ∈ l, 0 ≤ x ∧ x ≤ m) {i j : Nat} (hij : i ≤ j) : 0 ≤ sumR l i j := by
  have := (sumR_in hm h i (j - i)).1
  rwa [Nat.add_sub_cancel' hij] at this
theorem sumR_le8 {l : List Int} {m : Int} (hm : 0 ≤ m) (h : ∀ x ∈ l, 0 ≤ x ∧ x ≤ m) {i j : Nat} (hij : i ≤ j) (h8 : j ≤ 8) : sumR l i j ≤ m * 8 := by
  have := (sumR_in hm h i (j - i)).2
  rw [Nat.add_sub_cancel' hij] at this
  have h2 : m * ((j - i : Nat) : Int) ≤ m * 8 := Int.mul_le_mul_of_nonneg_left (by omega) hm
  omega

def rateF (k : Cs) (i t : Nat) : Int := k.unit.getD i 0 + sumR k.hold i t
theorem rateF_self (k : Cs) (i : Nat) : rateF k i i = k.unit.getD i 0 := by unfold rateF; rw [sumR_self]; omega
theorem rateF_s (k : Cs) (i t : Nat) : rateF k i (t + 1) = rateF k i t + k.hold.getD t 0 := by unfold rateF; rw [sumR_s]; omega
theorem rateF_in {k : Cs} (hg : Good k) {i t : Nat} (hit : i ≤ t) (h8 : t ≤ 8) : 0 ≤ rateF k i t ∧ rateF k i t ≤ 81 := by
  have h1 := getD_bound (m := 9) (by omega) hg.unit i
  have h2 := sumR_nn (m := 9) (by omega) hg.hold hit
  have h3 := sumR_le8 (m := 9) (by omega) hg.hold hit h8
  unfold rateF
  omega
theorem nr_in {k : Cs} (hg : Good k) {i t : Nat} (hit : i ≤ t) (h8 : t ≤ 8) : 0 ≤ k.need.getD t 0 * rateF k i t ∧ k.need.getD t 0 * rateF k i t ≤ 1620 := by
  have h1 := getD_bound (m := 20) (by omega) hg.need t
  have h2 := rateF_in hg hit h8
  have := mul_bound h1.1 h1.2 h2.1 h2.2
  omega
def spanS (k : Cs) (i : Nat) : Nat → Int
  | 0 => 0
  | t + 1 => if i ≤ t then spanS k i t + k.need.getD t 0 * rateF k i t else 0
theorem spanS_self (k : Cs) (i : Nat) : spanS k i i = 0 := by
  cases i with
  | zero => rfl
  | succ i => rw [spanS, if_neg (by omega)]
theorem spanS_s (k : Cs) {i t : Nat} (h : i ≤ t) : spanS k i (t + 1) = spanS k i t + k.need.getD t 0 * rateF k i t := by rw [spanS, if_pos h]
theorem spanS_in {k : Cs} (hg : Good k) (i d : Nat) (h8 : i + d ≤ 8) : 0 ≤ spanS k i (i + d) ∧ spanS k i (i + d) ≤ 1620 * d := by
  induction d with
  | zero => rw [Nat.add_zero, spanS_self]; simp
  | succ d ih =>
    have h1 := nr_in hg (i := i) (t := i + d) (by omega) (by omega)
    have := ih (by omega)
    rw [← Nat.add_assoc, spanS_s k (by omega)]
    omega
theorem spanS_in' {k : Cs} (hg : Good k) {i j : Nat} (hij : i ≤ j) (h8 : j ≤ 8) : 0 ≤ spanS k i j ∧ spanS k i j ≤ 12960 := by
  have := spanS_in hg i (j - i) (by omega)
  rw [Nat.add_sub_cancel' hij] at this
  omega
def spanF (k : Cs) (i j : Nat) : Int := if 0 < sumR k.need i j then k.setup.getD i 0 + spanS k i j else 0
theorem spanF_in {k : Cs} (hg : Good k) {i j : Nat} (hij : i ≤ j) (h8 : j ≤ 8) : 0 ≤ spanF k i j ∧ spanF k i j ≤ 13059 := by
  have h1 := spanS_in' hg hij h8
  have h2 := getD_bound (m := 99) (by omega) hg.setup i
  unfold spanF
  split <;> omega
def holdS (k : Cs) (i j : Nat) : Nat → Int
  | 0 => 0
  | t + 1 => if i ≤ t then holdS k i j t + k.hold.getD t 0 * sumR k.need (t + 1) j else 0
theorem holdS_self (k : Cs) (i j : Nat) : holdS k i j i = 0 := by
  cases i with
  | zero => rfl
  | succ i => rw [holdS, if_neg (by omega)]
theorem holdS_s (k : Cs) {i j t : Nat} (h : i ≤ t) : holdS k i j (t + 1) = holdS k i j t + k.hold.getD t 0 * sumR k.need (t + 1) j := by rw [holdS, if_pos h]
theorem holdS_span (k : Cs) (i j d : Nat) : holdS k i j (i + d) = spanS k i (i + d) - k.unit.getD i 0 * sumR k.need i (i + d) + sumR k.hold i (i + d) * sumR k.need (i + d) j := by
  induction d with
  | zero => rw [Nat.add_zero, holdS_self, spanS_self, sumR_self, sumR_self]; simp
  | succ d ih =>
    rw [← Nat.add_assoc, holdS_s k (by omega), spanS_s k (by omega), ih, sumR_s k.need, sumR_s k.hold, sumR_h k.need (i + d) j]
    unfold rateF
    generalize sumR k.need (i + d + 1) j = A
    generalize sumR k.need i (i + d) = B
    generalize sumR k.hold i (i + d) = C
    generalize k.need.getD (i + d) 0 = x
    generalize k.hold.getD (i + d) 0 = y
    generalize k.unit.getD i 0 = u
    generalize spanS k i (i + d) = S
    simp only [Int.mul_add, Int.add_mul]
    rw [Int.mul_comm x u, Int.mul_comm x C]
    omega
theorem spanF_order (k : Cs) {i j : Nat} (hij : i ≤ j) (hpos : 0 < sumR k.need i j) : spanF k i j = k.setup.getD i 0 + k.unit.getD i 0 * sumR k.need i j + holdS k i j j := by
  have := holdS_span k i j (j - i)
  rw [Nat.add_sub_cancel' hij, sumR_self, Int.mul_zero] at this
  unfold spanF
  rw [if_pos hpos, this]
  omega
theorem spanF_zero (k : Cs) {i j : Nat} (h : sumR k.need i j = 0) : spanF k i j = 0 := by unfold spanF; rw [h]; rfl
theorem holdS_in {k : Cs} (hg : Good k) (i j d : Nat) (h1 : i + d ≤ j) (h8 : j ≤ 8) : 0 ≤ holdS k i j (i + d) ∧ holdS k i j (i + d) ≤ 1440 * d := by
  induction d with
  | zero => rw [Nat.add_zero, holdS_self]; simp
  | succ d ih =>
    have b1 := getD_bound (m := 9) (by omega) hg.hold (i + d)
    have b2 := sumR_nn (m := 20) (by omega) hg.need (i := i + d + 1) (j := j) (by omega)
    have b3 := sumR_le8 (m := 20) (by omega) hg.need (i := i + d + 1) (j := j) (by omega) h8
    have := mul_bound b1.1 b1.2 b2 b3
    have := ih (by omega)
    rw [← Nat.add_assoc, holdS_s k (by omega)]
    omega
theorem holdS_in' {k : Cs} (hg : Good k) {i j t : Nat} (h0 : i ≤ t) (h1 : t ≤ j) (h8 : j ≤ 8) : 0 ≤ holdS k i j t ∧ holdS k i j t ≤ 11520 := by
  have := holdS_in hg i j (t - i) (by omega) h8
  rw [Nat.add_sub_cancel' h0] at this
  omega

def valF (k : Cs) (cs : List Int) (j i : Nat) : Int := cs.getD i 0 + spanF k i j
def lastB (f : Nat → Int) : Nat → Nat
  | 0 => 0
  | n + 1 => if f n ≤ f (lastB f n) then n else lastB f n
theorem lastB_one (f : Nat → Int) : lastB f 1 = 0 := by simp [lastB]
theorem lastB_lt (f : Nat → Int) (n : Nat) : lastB f (n + 1) ≤ n := by
  induction n with
  | zero => rw [lastB_one]; omega
  | succ n ih => rw [lastB]; split <;> omega
theorem lastB_le (f : Nat → Int) (n : Nat) : ∀ i, i < n → f (lastB f n) ≤ f i := by
  induction n with
  | zero => intro i hi; omega
  | succ n ih =>
    intro i hi
    rw [lastB]
    by_cases hc : f n ≤ f (lastB f n)
    · rw [if_pos hc]
      by_cases he : i = n
      · rw [he]; exact Int.le_refl _
      · exact Int.le_trans hc (ih i (by omega))
    · rw [if_neg hc]
      by_cases he : i = n
      · rw [he]; omega
      · exact ih i (by omega)
def fwdC (k : Cs) : Nat → List Int
  | 0 => [0]
  | j + 1 => fwdC k j ++ [valF k (fwdC k j) (j + 1) (lastB (valF k (fwdC k j) (j + 1)) (j + 1))]
def fwdB (k : Cs) (j : Nat) : Nat := lastB (valF k (fwdC k j) (j + 1)) (j + 1)
def fwdL (k : Cs) : Nat → List Int
  | 0 => []
  | j + 1 => fwdL k j ++ [(fwdB k j : Int)]
theorem fwdC_len (k : Cs) (j : Nat) : (fwdC k j).length = j + 1 := by
  induction j with
  | zero => rfl
  | succ j ih => rw [fwdC, List.length_append, ih]; rfl
theorem fwdL_len (k : Cs) (j : Nat) : (fwdL k j).length = j := by
  induction j with
  | zero => rfl
  | succ j ih => rw [fwdL, List.length_append, ih]; rfl
theorem getD_app {l : List Int} {x : Int} {i : Nat} : (l ++ [x]).getD i 0 = if i < l.length then l.getD i 0 else if i = l.length then x else 0 := by
  rw [List.getD_eq_getElem?_getD]
  by_cases h : i < l.length
  · rw [List.getElem?_append_left h, if_pos h, List.getD_eq_getElem?_getD]
  · rw [List.getElem?_append_right (by omega), if_neg h]
    by_cases h2 : i = l.length
    · rw [if_pos h2, h2]; simp
    · rw [if_neg h2, List.getElem?_eq_none (by simp; omega)]; rfl
theorem fwdL_at (k : Cs) {j n : Nat} (h : j < n) : (fwdL k n).getD j 0 = (fwdB k j : Int) := by
  induction n with
  | zero => omega
  | succ n ih =>
    rw [fwdL, getD_app, fwdL_len]
    by_cases h2 : j < n
    · rw [if_pos h2, ih h2]
    · obtain rfl : j = n := by omega
      simp
theorem fwdB_le (k : Cs) (j : Nat) : fwdB k j ≤ j := lastB_lt _ _
theorem fwdC_at0 (k : Cs) (j : Nat) : (fwdC k j).getD 0 0 = 0 := by
  induction j with
  | zero => rfl
  | succ j ih => rw [fwdC, getD_app, fwdC_len, if_pos (by omega), ih]
theorem fwdC_keep (k : Cs) {i j n : Nat} (hi : i ≤ j) (hj : j ≤ n) : (fwdC k n).getD i 0 = (fwdC k j).getD i 0 := by
  induction n with
  | zero => obtain rfl : j = 0 := by omega
            rfl
  | succ n ih =>
    by_cases h : j = n + 1
    · rw [h]
    · rw [fwdC, getD_app, fwdC_len, if_pos (by omega), ih (by omega)]
theorem fwdC_in {k : Cs} (hg : Good k) (j : Nat) (h8 : j ≤ 8) : ∀ x ∈ fwdC k j, 0 ≤ x ∧ x ≤ 13059 * 9 := by
  have key : ∀ j : Nat, j ≤ 8 → ∀ x ∈ fwdC k j, 0 ≤ x ∧ x ≤ 13059 * (j : Int) := by
    intro j
    induction j with
    | zero => intro _ x hx; simp [fwdC] at hx; subst hx; simp
    | succ j ih =>
      intro h8 x hx
      rw [fwdC] at hx
      rcases List.mem_append.1 hx with h | h
      · have := ih (by omega) x h
        omega
      · simp at h
        subst h
        have hb := lastB_lt (valF k (fwdC k j) (j + 1)) j
        generalize lastB (valF k (fwdC k j) (j + 1)) (j + 1) = b at *
        have h1 := spanF_in hg (i := b) (j := j + 1) (by omega) h8
        have h2 : 0 ≤ (fwdC k j).getD b 0 ∧ (fwdC k j).getD b 0 ≤ 13059 * (j : Int) := getD_bound (by omega) (ih (by omega)) b
        unfold valF
        omega
  intro x hx
  have := key j h8 x hx
  omega
theorem valF_in {k : Cs} (hg : Good k) {i j : Nat} (hij : i ≤ j) (h8 : j + 1 ≤ 8) : 0 ≤ valF k (fwdC k j) (j + 1) i ∧ valF k (fwdC k j) (j + 1) i ≤ 13059 * 10 := by
  have h1 := spanF_in hg (i := i) (j := j + 1) (by omega) h8
  have h2 := getD_bound (m := 13059 * 9) (by omega) (fwdC_in hg j (by omega)) i
  unfold valF
  omega

def bmin (k : Cs) (n i : Nat) (tail : List Int) : Nat → Int
  | 0 => spanF k i n
  | x + 1 => min (bmin k n i tail x) (spanF k i (i + 1 + x) + tail.getD x 0)
def bwdF (k : Cs) (n : Nat) : Nat → List Int
  | 0 => [0]
  | m + 1 => bmin k n (n - (m + 1)) (bwdF k n m) m :: bwdF k n m
theorem bwdF_len (k : Cs) (n m : Nat) : (bwdF k n m).length = m + 1 := by
  induction m with
  | zero => rfl
  | succ m ih => rw [bwdF, List.length_cons, ih]
theorem bwdF_in {k : Cs} (hg : Good k) (n m : Nat) (hm : m ≤ n) (h8 : n ≤ 8) : ∀ x ∈ bwdF k n m, 0 ≤ x ∧ x ≤ 13059 := by
  induction m with
  | zero => intro x hx; simp [bwdF] at hx; subst hx; omega
  | succ m ih =>
    intro x hx
    rw [bwdF] at hx
    rcases List.mem_cons.1 hx with h | h
    · subst h
      have ih := ih (by omega)
      have : ∀ x, x ≤ m → 0 ≤ bmin k n (n - (m + 1)) (bwdF k n m) x ∧ bmin k n (n - (m + 1)) (bwdF k n m) x ≤ 13059 := by
        intro x
        induction x with
        | zero => intro _; exact spanF_in hg (by omega) h8
        | succ x ihx =>
          intro hx
          have h1 := ihx (by omega)
          have h2 := spanF_in hg (i := n - (m + 1)) (j := n - (m + 1) + 1 + x) (by omega) (by omega)
          have h3 := getD_bound (m := 13059) (by omega) ih x
          rw [bmin]
          omega
      exact this m (Nat.le_refl _)
    · exact ih (by omega) x h
theorem bmin_in {k : Cs} (hg : Good k) {n m x : Nat} (hm : m + 1 ≤ n) (h8 : n ≤ 8) (hx : x ≤ m) : 0 ≤ bmin k n (n - (m + 1)) (bwdF k n m) x ∧ bmin k n (n - (m + 1)) (bwdF k n m) x ≤ 13059 := by
  have ih := bwdF_in hg n m (by omega) h8
  induction x with
  | zero => exact spanF_in hg (by omega) h8
  | succ x ihx =>
    have h1 := ihx (by omega)
    have h2 := spanF_in hg (i := n - (m + 1)) (j := n - (m + 1) + 1 + x) (by omega) (by omega)
    have h3 := getD_bound (m := 13059) (by omega) ih x
    rw [bmin]
    omega
def bwdL (k : Cs) : List Int := bwdF k k.need.length k.need.length

def tabP (k : Cs) (ls : List Int) : Nat → Nat → List Int
  | 0, _ => []
  | f + 1, j => if j = 0 then [] else
      (tabP k ls f (ls.getD (j - 1) 0).toNat) ++ (if 0 < sumR k.need (ls.getD (j - 1) 0).toNat j then [ls.getD (j - 1) 0] else [])
def horAt (k : Cs) (ls : List Int) (t : Nat) : Bool := (ls.getD t 0 == (t : Int)) && decide (0 < k.need.getD t 0)
def horP (k : Cs) (ls : List Int) : Nat → List Int
  | 0 => []
  | t + 1 => if horAt k ls t then horP k ls t ++ [((t : Int) + 1)] else horP k ls t
theorem horP_len (k : Cs) (ls : List Int) (t : Nat) : (horP k ls t).length ≤ t := by
  induction t with
  | zero => simp [horP]
  | succ t ih => rw [horP]; split <;> (try rw [List.length_append, List.length_singleton]) <;> omega
def turnAt (k : Cs) (t : Nat) : Bool := (fwdC k k.need.length).getD t 0 + (bwdL k).getD t 0 == (bwdL k).getD 0 0
def turnP (k : Cs) : Nat → List Int
  | 0 => []
  | t + 1 => if turnAt k t then turnP k t ++ [(t : Int)] else turnP k t
theorem turnP_len (k : Cs) (t : Nat) : (turnP k t).length ≤ t := by
  induction t with
  | zero => simp [turnP]
  | succ t ih => rw [turnP]; split <;> (try rw [List.length_append, List.length_singleton]) <;> omega

end Go.Proofs.Ytibkaclkaigflaa
end
section
namespace Go.Proofs.Ytibkaclkaigflaa.Ab
open Go Go.RowKit
set_option linter.unusedVariables false
set_option linter.unusedSimpArgs false
theorem sumTo_cut {l : List Int} {lo hi : Nat} (h1 : lo ≤ hi) (h2 : hi ≤ l.length) (k : Nat) (hk : k ≤ hi - lo) : sumTo (cutL l lo hi) k = sumR l lo (lo + k) := by
  induction k with
  | zero => rw [Nat.add_zero, sumR_self]; rfl
  | succ k ih => rw [sumTo_g, ih (by omega), ← Nat.add_assoc, sumR_s, cutL_at (by omega)]
theorem sumTo_cut' {l : List Int} {lo hi : Nat} (h1 : lo ≤ hi) (h2 : hi ≤ l.length) : sumTo (cutL l lo hi) (cutL l lo hi).length = sumR l lo hi := by
  rw [cutL_len h2, sumTo_cut h1 h2 _ (Nat.le_refl _), Nat.add_sub_cancel' h1]
theorem sumOf_cut_rc (m : Mem) (v' : Value) (l : List Int) {lo hi : Nat} {b : Int} (h : IntsA m v' (cutL l lo hi)) (h1 : lo ≤ hi) (h2 : hi ≤ l.length) (hb0 : 0 ≤ b) (hb1 : b ≤ 1000000) (hb : ∀ x ∈ l, 0 ≤ x ∧ x ≤ b) (h8 : l.length ≤ 1000) :
    RC Try.prog 24 [v'] m fun r new => r = .int .i64 (sumR l lo hi) ∧ new = [] := by
  have hc := cutL_len h2 (lo := lo)
  have := sumOf_rc m v' (cutL l lo hi) h fun k hk => by
    rw [hc] at hk
    rw [sumTo_cut h1 h2 k hk]
    have := sumR_in hb0 hb lo k
    have h3 : b * (k : Int) ≤ 1000000 * (k : Int) := Int.mul_le_mul_of_nonneg_right hb1 (by omega)
    omega
  rw [sumTo_cut' h1 h2] at this
  exact this
theorem Grow.box4 {m M : Mem} {e : TypeId} {v1 v2 v3 v4 : Value} (h : Grow (roM m ++ [⟨.own, e, [v1, v2, v3, v4]⟩]) M) :
    rdc M m.length 0 = some v1 ∧ rdc M m.length 1 = some v2 ∧ rdc M m.length 2 = some v3 ∧ rdc M m.length 3 = some v4 ∧ m.length < M.length := by
  have hl := h.len
  simp only [List.length_append, List.length_cons, List.length_nil, roM_len] at hl
  refine ⟨h.rd ?_, h.rd ?_, h.rd ?_, h.rd ?_, by omega⟩ <;> (rw [rdc_box (roM_len m).symm]; rfl)
theorem Grow.ext {m M : Mem} {e : TypeId} {cs : List Value} (h : Grow (roM m ++ [⟨.own, e, cs⟩]) M) : Ext m M := ((Ext.refl m).one _ _).grow h
theorem Grow.caseV {m M : Mem} {e : TypeId} {cs : List Value} {v : Value} {k : Cs} (h : Grow (roM m ++ [⟨.own, e, cs⟩]) M) (hk : CaseA (roM m) v k) : CaseA M v k := h.case (hk.ext _)
theorem Grow.intsV {m M : Mem} {e : TypeId} {cs : List Value} {v : Value} {l : List Int} (h : Grow (roM m ++ [⟨.own, e, cs⟩]) M) (hk : IntsA (roM m) v l) : IntsA M v l := h.ints (hk.ext _)
end Go.Proofs.Ytibkaclkaigflaa.Ab
end
section
namespace Go.Proofs.Ytibkaclkaigflaa.Ab
open Go Go.RowKit
set_option linter.unusedVariables false
set_option linter.unusedSimpArgs false
structure Db (M M' : Mem) (cb id a r : Nat) (l L : List Int) (bx : Blk) : Prop where
  dr : Dr M M' cb id a r l L
  box : M'[M.length]? = some bx
  gt : M.length < r
section
variable {M M' M2 : Mem} {cb id a a2 r : Nat} {l L : List Int} {bx : Blk}
theorem Db.draw (h : Db M M' cb id a r l L bx) (w : Cw id M' M2) (k : CurA M2 cb l id a2) : Db M M2 cb id a2 r l L bx :=
  ⟨h.dr.draw w k, by rw [w.old M.length (by have := h.dr.hid; omega) (List.getElem?_eq_some_iff.1 h.box).1]; exact h.box, h.gt⟩
theorem Db.st (h : Db M M' cb id a r l L bx) {j : Nat} (hj : j < L.length) (x : Int) : stA M' r j [.int .i64 x] = some (M'.set r (rowB (L.set j x))) ∧ Db M (M'.set r (rowB (L.set j x))) cb id a r l (L.set j x) bx :=
  ⟨(h.dr.st hj x).1, (h.dr.st hj x).2, by rw [List.getElem?_set_ne (by have := h.gt; omega)]; exact h.box, h.gt⟩
theorem Db.rd {e : TypeId} {cs : List Value} (h : Db M M' cb id a r l L ⟨.own, e, cs⟩) (j : Nat) : rdc M' M.length j = cs[j]? := by
  unfold rdc; rw [h.box]; rfl
theorem Db.app (h : Db M M' cb id a r l L bx) (x : Int) (hl : L.length ≤ 1000) {i : Nat} (hi : i = M'.length) : ∃ M2,
    appP (M' ++ [⟨.own, 3, [.int .i64 x]⟩]) 3 1 8 (.slice (some ⟨r, 0, none⟩) L.length 1) (.slice (some ⟨i, 0, none⟩) 1 1) = some (.slice (some ⟨M'.length + 1, 0, none⟩) (L.length + 1) 1, M2) ∧
    Dr M M2 cb id a (M'.length + 1) l (L ++ [x]) := h.dr.app x hl hi
end
end Go.Proofs.Ytibkaclkaigflaa.Ab
end
section
namespace Go.Proofs.Ytibkaclkaigflaa.Ab
open Go Go.RowKit Go.Proofs
set_option maxRecDepth 100000
def c_laws_vBig : ACode := .seq (.reg [⟨(some 2), .mv (.const (.bool false)), none⟩])
 (.seq (.reg [⟨(some 3), .mv (.tmp 0), none⟩,
  ⟨(some 4), .len (.tmp 3), none⟩,
  ⟨(some 5), .bin .gtr (.tmp 4) (.const (.int .i64 65536)), none⟩,
  ⟨(some 2), .mv (.tmp 5), none⟩])
 (.ret))
def r_laws_vBig : List ARes := [.tmp 2]
theorem ok_laws_vBig : FnOk Try.prog 4 6 c_laws_vBig r_laws_vBig := ⟨⟨Try.f4, _, Try.func4, by kernel_rfl, rfl, rfl, by kernel_rfl, by kernel_rfl⟩⟩
def c_laws_vInts : ACode := .seq (.reg [⟨(some 4), .mv (.const (.bool false)), none⟩])
 (.seq (.seq (.reg [⟨(some 6), .mv (.tmp 0), none⟩,
  ⟨(some 7), .len (.tmp 6), none⟩,
  ⟨(some 8), .mv (.tmp 1), none⟩,
  ⟨(some 9), .len (.tmp 8), none⟩,
  ⟨(some 10), .bin .neq (.tmp 7) (.tmp 9), none⟩])
 (.cond (.tmp 10) (.seq (.reg [⟨(some 4), .mv (.const (.bool false)), none⟩])
 (.ret)) (.skip)))
 (.seq (.seq (.reg [⟨(some 5), .mv (.const (.int .i64 0)), none⟩])
 (.block 0 (.loop (.seq (.seq (.reg [⟨(some 11), .mv (.tmp 5), none⟩,
  ⟨(some 12), .mv (.tmp 0), none⟩,
  ⟨(some 13), .len (.tmp 12), none⟩,
  ⟨(some 14), .bin .lss (.tmp 11) (.tmp 13), none⟩])
 (.cond (.tmp 14) (.skip) (.exit 0)))
 (.seq (.block 1 (.seq (.reg [⟨(some 17), .mv (.tmp 0), none⟩,
  ⟨(some 18), .mv (.tmp 5), none⟩,
  ⟨(some 19), .iad 1 (.tmp 17) (.tmp 18), none⟩,
  ⟨(some 20), .ld none (.tmp 19), none⟩,
  ⟨(some 21), .mv (.tmp 1), none⟩,
  ⟨(some 22), .mv (.tmp 5), none⟩,
  ⟨(some 23), .iad 1 (.tmp 21) (.tmp 22), none⟩,
  ⟨(some 24), .ld none (.tmp 23), none⟩,
  ⟨(some 25), .bin .neq (.tmp 20) (.tmp 24), none⟩])
 (.cond (.tmp 25) (.seq (.reg [⟨(some 4), .mv (.const (.bool false)), none⟩])
 (.ret)) (.skip))))
 (.reg [⟨(some 15), .mv (.tmp 5), none⟩,
  ⟨(some 16), .bin .add (.tmp 15) (.const (.int .i64 1)), none⟩,
  ⟨(some 5), .mv (.tmp 16), none⟩]))))))
 (.seq (.reg [⟨(some 4), .mv (.const (.bool true)), none⟩])
 (.ret))))
def r_laws_vInts : List ARes := [.tmp 4]
theorem ok_laws_vInts : FnOk Try.prog 12 26 c_laws_vInts r_laws_vInts := ⟨⟨Try.f12, _, Try.func12, by kernel_rfl, rfl, rfl, by kernel_rfl, by kernel_rfl⟩⟩
def c_laws_vHas : ACode := .seq (.reg [⟨(some 4), .mv (.const (.bool false)), none⟩])
 (.seq (.seq (.reg [⟨(some 5), .mv (.const (.int .i64 0)), none⟩])
 (.block 0 (.loop (.seq (.seq (.reg [⟨(some 6), .mv (.tmp 5), none⟩,
  ⟨(some 7), .mv (.tmp 0), none⟩,
  ⟨(some 8), .len (.tmp 7), none⟩,
  ⟨(some 9), .bin .lss (.tmp 6) (.tmp 8), none⟩])
 (.cond (.tmp 9) (.skip) (.exit 0)))
 (.seq (.block 1 (.seq (.reg [⟨(some 12), .mv (.tmp 0), none⟩,
  ⟨(some 13), .mv (.tmp 5), none⟩,
  ⟨(some 14), .iad 1 (.tmp 12) (.tmp 13), none⟩,
  ⟨(some 15), .ld none (.tmp 14), none⟩,
  ⟨(some 16), .mv (.tmp 1), none⟩,
  ⟨(some 17), .bin .eql (.tmp 15) (.tmp 16), none⟩])
 (.cond (.tmp 17) (.seq (.reg [⟨(some 4), .mv (.const (.bool true)), none⟩])
 (.ret)) (.skip))))
 (.reg [⟨(some 10), .mv (.tmp 5), none⟩,
  ⟨(some 11), .bin .add (.tmp 10) (.const (.int .i64 1)), none⟩,
  ⟨(some 5), .mv (.tmp 11), none⟩]))))))
 (.seq (.reg [⟨(some 4), .mv (.const (.bool false)), none⟩])
 (.ret)))
def r_laws_vHas : List ARes := [.tmp 4]
theorem ok_laws_vHas : FnOk Try.prog 18 18 c_laws_vHas r_laws_vHas := ⟨⟨Try.f18, _, Try.func18, by kernel_rfl, rfl, rfl, by kernel_rfl, by kernel_rfl⟩⟩
end Go.Proofs.Ytibkaclkaigflaa.Ab
end
section
namespace Go.Proofs.Ytibkaclkaigflaa.Ab
open Go Go.RowKit
set_option linter.unusedVariables false
set_option linter.unusedSimpArgs false
structure BytesA (m : Mem) (cb : Nat) (l : List Int) : Prop where
  blk : ∃ kd, kd ≠ Kd.dead ∧ m[cb]? = some ⟨kd, 5, l.map (Value.int .u8)⟩
  byte : ∀ x ∈ l, 0 ≤ x ∧ x ≤ 255
  few : l.length ≤ 65536
theorem BytesA.ro {m : Mem} {cb : Nat} {l : List Int} (h : BytesA m cb l) : (roM m)[cb]? = some ⟨.ro, 5, l.map (Value.int .u8)⟩ := by
  obtain ⟨kd, hk, hb⟩ := h.blk
  unfold roM
  rw [List.getElem?_map, hb]
  cases kd with
  | dead => exact absurd rfl hk
  | ro => rfl
  | own => rfl
theorem BytesA.ext {m : Mem} {cb : Nat} {l : List Int} (h : BytesA m cb l) (new : Mem) : BytesA (m ++ new) cb l := by
  obtain ⟨kd, hk, hb⟩ := h.blk
  exact ⟨⟨kd, hk, by rw [List.getElem?_append_left (List.getElem?_eq_some_iff.1 hb).1]; exact hb⟩, h.byte, h.few⟩
theorem CurA.start {m : Mem} {cb fl : Nat} {l : List Int} (h : BytesA m cb l) {id : Nat} (hid : id = m.length) : CurA (roM m ++ [⟨.own, 57, [.slice (some ⟨cb, 0, none⟩) l.length fl, .int .i64 0, .int .u64 0]⟩]) cb l id 0 := by
  subst hid
  have hb := h.ro
  have hlt := (List.getElem?_eq_some_iff.1 hb).1
  refine ⟨by rw [List.getElem?_append_left hlt]; exact hb, h.byte, h.few, (fl, 0), ?_⟩
  rw [List.getElem?_append_right (by rw [roM_len]; omega), roM_len]
  simp
theorem bldCur (A : Option Addr) (n c : Nat) : bldA [.slice none 0 0, .int .i64 0, .int .u64 0] [(0, 1, .slice A n c)] = some (.agg #[.slice A n c, .int .i64 0, .int .u64 0]) := rfl

theorem vBig_rc (m : Mem) (cb fl : Nat) (n : Nat) : RC Try.prog 4 [.slice (some ⟨cb, 0, none⟩) n fl] m fun r new => r = .bool (decide (65536 < n)) ∧ new = [] := by
  refine rc_of_run mixed ok_laws_vBig (by simp) (go_start _ _ _ ?_)
  simp (config := {implicitDefEqProofs := false, maxDischargeDepth := 20}) (disch := first | omega | (simp only [lenE]; done) | (simp only [lenE]; omega) | rfl | (simp only [lenE, markR_len]; done) | (simp only [lenE, markR_len]; omega)) only [runE, mapE, listE, initT_5, initT_6, initT_7, initT_8, resV, oneV, binA, unA, reduceCtorEq, Nat.reduceEqDiff, Nat.reduceAdd, Nat.reduceLT, Nat.reduceLeDiff, Nat.reduceMul, Nat.reduceSub, ↓reduceIte, decide_true, decide_false, Bool.true_eq_false, Bool.false_eq_true, Bool.not_true, Bool.not_false, if_true, if_false, and_true, true_and, memE, celE, w64, Nat.zero_add, Nat.add_zero, Nat.mul_one, putL, and_self, ldn, c_laws_vBig, r_laws_vBig, gt_iff_lt]
  refine newQ_nil ⟨?_, rfl⟩
  congr 1
  rw [decide_eq_decide]
  omega
theorem vInts_rc (m : Mem) (v u : Value) (l : List Int) (h : IntsA m v l) (h' : IntsA m u l) : RC Try.prog 12 [v, u] m fun r new => r = .bool true ∧ new = [] := by
  refine rc_of_run mixed ok_laws_vInts (by simp) (go_start _ _ _ ?_)
  obtain ⟨e1, e2, e3, e4, -⟩ := h.ro
  obtain ⟨d1, d2, d3, d4, -⟩ := h'.ro
  simp (config := {implicitDefEqProofs := false, maxDischargeDepth := 20}) (disch := first | omega | (simp only [lenE]; done) | (simp only [lenE]; omega) | rfl | (simp only [lenE, markR_len]; done) | (simp only [lenE, markR_len]; omega)) only [runE, mapE, listE, initT_5, initT_6, initT_7, initT_8, resV, oneV, binA, unA, reduceCtorEq, Nat.reduceEqDiff, Nat.reduceAdd, Nat.reduceLT, Nat.reduceLeDiff, Nat.reduceMul, Nat.reduceSub, ↓reduceIte, decide_true, decide_false, Bool.true_eq_false, Bool.false_eq_true, Bool.not_true, Bool.not_false, if_true, if_false, and_true, true_and, memE, celE, w64, Nat.zero_add, Nat.add_zero, Nat.mul_one, putL, and_self, ldn, c_laws_vInts, r_laws_vInts, e1, d1, bne_self_eq_false]
  refine loop_inv mixed (fun s => ∃ k : Nat, k ≤ l.length ∧ s.t 0 = v ∧ s.t 1 = u ∧ s.t 5 = .int .i64 k ∧ s.m = roM m) (fun s => l.length - (intOf (s.t 5)).toNat) ⟨0, by omega, rfl, rfl, rfl, rfl⟩ ?_
  rintro s ⟨k, hk, t0, t1, t5, tm⟩
  by_cases hlt : k < l.length
  · have hlt' : (k : Int) < l.length := by omega
    simp (config := {implicitDefEqProofs := false, maxDischargeDepth := 20}) (disch := first | omega | (simp only [lenE]; done) | (simp only [lenE]; omega) | rfl | (simp only [lenE, markR_len]; done) | (simp only [lenE, markR_len]; omega)) only [runE, mapE, listE, initT_5, initT_6, initT_7, initT_8, resV, oneV, binA, unA, reduceCtorEq, Nat.reduceEqDiff, Nat.reduceAdd, Nat.reduceLT, Nat.reduceLeDiff, Nat.reduceMul, Nat.reduceSub, ↓reduceIte, decide_true, decide_false, Bool.true_eq_false, Bool.false_eq_true, Bool.not_true, Bool.not_false, if_true, if_false, and_true, true_and, memE, celE, w64, Nat.zero_add, Nat.add_zero, Nat.mul_one, putL, and_self, ldn, t0, t1, t5, tm, e1, e3 k hlt, e4 k hlt, d3 k hlt, d4 k hlt, hlt', bne_self_eq_false]
    exact ⟨⟨k + 1, by omega, by simp⟩, by simp [intOf]; omega⟩
  · have hlt' : ¬ ((k : Int) < l.length) := by omega
    simp (config := {implicitDefEqProofs := false, maxDischargeDepth := 20}) (disch := first | omega | (simp only [lenE]; done) | (simp only [lenE]; omega) | rfl | (simp only [lenE, markR_len]; done) | (simp only [lenE, markR_len]; omega)) only [runE, mapE, listE, initT_5, initT_6, initT_7, initT_8, resV, oneV, binA, unA, reduceCtorEq, Nat.reduceEqDiff, Nat.reduceAdd, Nat.reduceLT, Nat.reduceLeDiff, Nat.reduceMul, Nat.reduceSub, ↓reduceIte, decide_true, decide_false, Bool.true_eq_false, Bool.false_eq_true, Bool.not_true, Bool.not_false, if_true, if_false, and_true, true_and, memE, celE, w64, Nat.zero_add, Nat.add_zero, Nat.mul_one, putL, and_self, ldn, t0, t1, t5, tm, e1, hlt']
    exact newQ_nil ⟨rfl, rfl⟩
theorem argB {W : World} {A : Option Addr} {c : Nat} {l : List Int} (hr : Rd W W.heap.size A (l.map (Value.int .u8))) (hlc : l.length ≤ c) (hc : c ≤ maxLen) :
    ∃ p, MRel W W.heap.size [p] [⟨.ro, 5, l.map (Value.int .u8)⟩] W ∧ VR [p] (.slice (some ⟨0, 0, none⟩) l.length 0) (.slice A l.length c) := by
  have h := MRel.start W
  by_cases hl : 0 < l.length
  · obtain ⟨b, off, rfl, hb, hcell⟩ := hr (by simpa using hl)
    refine ⟨(b, off, 0), by
      have := h.addRo (e := 5) (xs := l.map (Value.int .u8)) (b := b) (o := off) (tot := 0) (fun k x hx => ⟨hb, x, hcell k x hx, by
        rw [List.getElem?_map] at hx
        cases hk : l[k]? with
        | none => rw [hk] at hx; cases hx
        | some z => rw [hk] at hx; cases hx; exact .int _ _⟩)
      simpa using this, .sl (b := b) (o := off) (tot := 0) (by simp) hlc hc (fun _ _ => by simp) (fun hf => absurd hf (by omega))⟩
  · have hl0 : l = [] := List.eq_nil_of_length_eq_zero (by omega)
    subst hl0
    exact ⟨(0, 0, 0), by
      have := h.addRo (e := 5) (xs := []) (b := 0) (o := 0) (tot := 0) (fun k x hx => by simp at hx)
      simpa using this, .sl (b := 0) (o := 0) (tot := 0) (by simp) hlc hc (fun _ hp => absurd hp (by simp)) (fun hf => absurd hf (by omega))⟩
end Go.Proofs.Ytibkaclkaigflaa.Ab
end
section
namespace Go.Proofs.Ytibkaclkaigflaa.Ab
open Go Go.RowKit
set_option linter.unusedVariables false
set_option linter.unusedSimpArgs false
theorem Lives.up {lo : Nat} {M M' : Mem} {v : Value} {k : Cs} (h : Lives lo M v k) (hl : M.length ≤ M'.length) (he : ∀ i, lo ≤ i → i < M.length → M'[i]? = M[i]?) : Lives lo M' v k := fun M3 h3 =>
  h M3 fun i h1 h2 => (h3 i h1 (by omega)).trans (he i h1 h2)
theorem cell_st {M : Mem} {c : Nat} {v1 v2 v3 v4 : Value} {cs : List Value} {k : Cs} {M0 : Mem} (h : M[c]? = some ⟨.own, 26, cs⟩) (hc : cs.length = 4) (hk : CaseA M0 (.agg #[v1, v2, v3, v4]) k) :
    stA M c 0 [v1, v2, v3, v4] = some (M.set c ⟨.own, 26, [v1, v2, v3, v4]⟩) ∧
    ∀ j, rdc (M.set c ⟨.own, 26, [v1, v2, v3, v4]⟩) c j = [v1, v2, v3, v4][j]? := by
  obtain ⟨w1, w2, w3, w4, e, i1, i2, i3, i4⟩ := hk.ok
  cases e
  have hlt := (List.getElem?_eq_some_iff.1 h).1
  refine ⟨?_, fun j => ?_⟩
  · unfold stA
    rw [h]
    obtain ⟨a, b, c', d, rfl⟩ : ∃ a b c' d, cs = [a, b, c', d] := by
      match cs, hc with
      | [a, b, c', d], _ => exact ⟨a, b, c', d, rfl⟩
    simp [onesB, i1.one, i2.one, i3.one, i4.one, putL]
  · unfold rdc
    rw [List.getElem?_set_self hlt]
    rfl
theorem ext_of {m M' : Mem} (hl : m.length ≤ M'.length) (old : ∀ i, i < m.length → M'[i]? = (roM m)[i]?) (new : ∀ (i : Nat) (b : Blk), m.length ≤ i → M'[i]? = some b → b.kd ≠ .ro) : Ext m M' := by
  have e : M' = roM m ++ M'.drop m.length := by
    apply List.ext_getElem?
    intro i
    by_cases hi : i < m.length
    · rw [List.getElem?_append_left (by rw [roM_len]; exact hi), old i hi]
    · rw [List.getElem?_append_right (by rw [roM_len]; omega), List.getElem?_drop, roM_len, Nat.add_sub_cancel' (by omega)]
  refine ⟨M'.drop m.length, e, fun c hc => ?_⟩
  obtain ⟨j, hj, rfl⟩ := List.getElem_of_mem hc
  have hg : M'[m.length + j]? = some (M'.drop m.length)[j] := by
    rw [← List.getElem?_drop, List.getElem?_eq_getElem hj]
  exact new (m.length + j) _ (by omega) hg
theorem CurA.start2 {M : Mem} {cb fl : Nat} {l : List Int} (h : M[cb]? = some ⟨.ro, 5, l.map (Value.int .u8)⟩) (hb : ∀ x ∈ l, 0 ≤ x ∧ x ≤ 255) (hf : l.length ≤ 65536) : CurA (M ++ [⟨.own, 57, [.slice (some ⟨cb, 0, none⟩) l.length fl, .int .i64 0, .int .u64 0]⟩]) cb l M.length 0 :=
  ⟨by rw [List.getElem?_append_left (List.getElem?_eq_some_iff.1 h).1]; exact h, hb, hf, (fl, 0), by simp⟩
theorem Cw.noRo {id : Nat} {A B : Mem} {lo : Nat} (h : Cw id A B) (hA : ∀ (i : Nat) (b : Blk), lo ≤ i → A[i]? = some b → b.kd ≠ .ro) {cb a : Nat} {l : List Int} (k : CurA B cb l id a) : ∀ (i : Nat) (b : Blk), lo ≤ i → B[i]? = some b → b.kd ≠ .ro := fun i b hi hb => by
  by_cases e : i = id
  · subst e
    obtain ⟨s, h2⟩ := k.box
    rw [h2] at hb
    cases hb
    simp
  · by_cases hl : i < A.length
    · rw [h.old i e hl] at hb; exact hA i b hi hb
    · exact h.new i b (by omega) hb
end Go.Proofs.Ytibkaclkaigflaa.Ab
end
section
namespace Go.Proofs.Ytibkaclkaigflaa.Ab
open Go Go.RowKit
set_option linter.unusedVariables false
set_option linter.unusedSimpArgs false
def AnsC1 (m : Mem) (r : Value) (new : Mem) : Prop :=
  NoRo new ∧ ∃ (v1 v2 v3 v4 : Value) (k : Cs), r = .agg #[v1, v2, v3, v4] ∧ Lives m.length (m ++ new) (.agg #[v1, v2, v3, v4]) k
theorem fin_case {m N : Mem} {v1 v2 v3 v4 : Value} {k : Cs} {lo : Nat} (hx : Ext m N) (hlv : Lives lo N (.agg #[v1, v2, v3, v4]) k) (hlo : m.length ≤ lo) :
    newQ m (AnsC1 m) (.agg #[v1, v2, v3, v4]) N := by
  obtain ⟨n0, rfl, h0⟩ := hx
  refine ⟨n0, rfl, h0, h0, v1, v2, v3, v4, k, rfl, fun M3 h3 => hlv M3 fun j h1 h2 => ?_⟩
  have hj : j < (m ++ n0).length := by simp [roM_len] at h2 ⊢; exact h2
  rw [h3 j (by omega) hj, List.getElem?_append_right (by omega), List.getElem?_append_right (by rw [roM_len]; omega), roM_len]
theorem case_on {m : Mem} {r : Value} {new : Mem} (h : AnsC1 (roM m ++ [⟨.own, 26, [.slice none 0 0, .slice none 0 0, .slice none 0 0, .slice none 0 0]⟩]) r new) : ∃ (v1 v2 v3 v4 : Value) (M2 : Mem), r = .agg #[v1, v2, v3, v4] ∧
    stA (roM m ++ [(⟨.own, 26, [.slice none 0 0, .slice none 0 0, .slice none 0 0, .slice none 0 0]⟩ : Blk)] ++ new) m.length 0 [v1, v2, v3, v4] = some M2 ∧
    rdc M2 m.length 0 = some v1 ∧ rdc M2 m.length 1 = some v2 ∧ rdc M2 m.length 2 = some v3 ∧ rdc M2 m.length 3 = some v4 ∧
    newQ m (AnsC1 m) (.agg #[v1, v2, v3, v4]) M2 := by
  obtain ⟨h0, v1, v2, v3, v4, k, rfl, hk⟩ := h
  have hl : (roM m ++ [(⟨.own, 26, [.slice none 0 0, .slice none 0 0, .slice none 0 0, .slice none 0 0]⟩ : Blk)]).length = m.length + 1 := by simp [roM_len]
  rw [hl] at hk
  have hc : (roM m ++ [(⟨.own, 26, [.slice none 0 0, .slice none 0 0, .slice none 0 0, .slice none 0 0]⟩ : Blk)] ++ new)[m.length]? = some ⟨.own, 26, [.slice none 0 0, .slice none 0 0, .slice none 0 0, .slice none 0 0]⟩ := by
    rw [List.getElem?_append_left (by omega), List.getElem?_append_right (by rw [roM_len]; omega), roM_len]; simp
  obtain ⟨s1, r1⟩ := cell_st hc rfl hk.here
  have hx : Ext m (roM m ++ [(⟨.own, 26, [.slice none 0 0, .slice none 0 0, .slice none 0 0, .slice none 0 0]⟩ : Blk)] ++ new) := ((Ext.refl m).one _ _).app h0
  have lv : Lives (m.length + 1) ((roM m ++ [(⟨.own, 26, [.slice none 0 0, .slice none 0 0, .slice none 0 0, .slice none 0 0]⟩ : Blk)] ++ new).set m.length ⟨.own, 26, [v1, v2, v3, v4]⟩) (.agg #[v1, v2, v3, v4]) k := hk.up (by simp) fun j h1 h2 => List.getElem?_set_ne (by omega)
  exact ⟨v1, v2, v3, v4, _, rfl, s1, r1 0, r1 1, r1 2, r1 3, fin_case (hx.put (Nat.le_refl _) _ _) lv (by omega)⟩
theorem DrawForwardCosts_rc (m : Mem) (cb fl : Nat) (l : List Int) (h : BytesA m cb l) :
    RC Try.prog 19 [.slice (some ⟨cb, 0, none⟩) l.length fl] m (AnsC1 m) := by
  refine rc_of_run mixed ok_spec_DrawForwardCosts (by simp) (go_start _ _ _ ?_)
  simp (config := {implicitDefEqProofs := false, maxDischargeDepth := 20}) (disch := first | omega | (simp only [lenE]; done) | (simp only [lenE]; omega) | rfl | (simp only [lenE, markR_len]; done) | (simp only [lenE, markR_len]; omega)) only [runE, mapE, listE, initT_5, initT_6, initT_7, initT_8, resV, oneV, binA, unA, reduceCtorEq, Nat.reduceEqDiff, Nat.reduceAdd, Nat.reduceLT, Nat.reduceLeDiff, Nat.reduceMul, Nat.reduceSub, ↓reduceIte, decide_true, decide_false, Bool.true_eq_false, Bool.false_eq_true, Bool.not_true, Bool.not_false, if_true, if_false, and_true, true_and, memE, celE, w64, Nat.zero_add, Nat.add_zero, Nat.mul_one, putL, and_self, ldn, c_spec_DrawForwardCosts, r_spec_DrawForwardCosts, bldCur]
  obtain ⟨M0, hM0⟩ : ∃ M0 : Mem, M0 = roM m ++ [⟨.own, 26, [.slice none 0 0, .slice none 0 0, .slice none 0 0, .slice none 0 0]⟩] := ⟨_, rfl⟩
  have hl0 : M0.length = m.length + 1 := by rw [hM0]; simp [roM_len]
  have hc0 : M0[m.length]? = some ⟨.own, 26, [.slice none 0 0, .slice none 0 0, .slice none 0 0, .slice none 0 0]⟩ := by rw [hM0, List.getElem?_append_right (by rw [roM_len]; omega), roM_len]; simp
  have ho0 : ∀ i, i < m.length → M0[i]? = (roM m)[i]? := fun i hi => by rw [hM0, List.getElem?_append_left (by rw [roM_len]; exact hi)]
  have hb0 : M0[cb]? = some ⟨.ro, 5, l.map (Value.int .u8)⟩ := by
    have := h.ro
    rw [hM0, List.getElem?_append_left (List.getElem?_eq_some_iff.1 this).1]; exact this
  have k0 := CurA.start2 (fl := fl) hb0 h.byte h.few
  rw [hl0] at k0
  have hn0 : ∀ (i : Nat) (b : Blk), m.length ≤ i → (M0 ++ [(⟨.own, 57, [.slice (some ⟨cb, 0, none⟩) l.length fl, .int .i64 0, .int .u64 0]⟩ : Blk)])[i]? = some b → b.kd ≠ .ro := fun i b hi hb => by
    by_cases e : i = m.length
    · subst e
      rw [List.getElem?_append_left (by omega), hc0] at hb
      cases hb
      simp
    · rw [List.getElem?_append_right (by omega)] at hb
      have e1 : i - M0.length = 0 := by
        have := (List.getElem?_eq_some_iff.1 hb).1
        simpa using this
      rw [e1] at hb
      cases hb
      simp
  rw [← hM0]
  refine callH_ac (lots_ac _ cb _ 0 l k0 (by omega)) ?_
  rintro v M1 ⟨k, ⟨hsm, lv⟩, w1, a1, ha1, k1⟩
  obtain ⟨v1, v2, v3, v4, rfl, i1, i2, i3, i4⟩ := lv.here.ok
  have hl1 := w1.len
  have hll : (M0 ++ [(⟨.own, 57, [.slice (some ⟨cb, 0, none⟩) l.length fl, .int .i64 0, .int .u64 0]⟩ : Blk)]).length = m.length + 2 := by simp; omega
  rw [hll] at hl1 lv
  have hc1 : M1[m.length]? = some ⟨.own, 26, [.slice none 0 0, .slice none 0 0, .slice none 0 0, .slice none 0 0]⟩ := by
    rw [w1.old m.length (by omega) (by omega), List.getElem?_append_left (by omega)]; exact hc0
  have hn1 := w1.noRo hn0 k1
  have ho1 : ∀ i, i < m.length → M1[i]? = (roM m)[i]? := fun i hi => by
    rw [w1.old i (by omega) (by omega), List.getElem?_append_left (by omega)]; exact ho0 i hi
  obtain ⟨s4, r4⟩ := cell_st hc1 rfl lv.here
  have x1 : Ext m M1 := ext_of (by omega) ho1 hn1
  have x4 := x1.put (Nat.le_refl _) 26 [v1, v2, v3, v4]
  have lv4 : Lives (m.length + 2) (M1.set m.length ⟨.own, 26, [v1, v2, v3, v4]⟩) (.agg #[v1, v2, v3, v4]) k := lv.up (by simp) fun i h1 h2 => List.getElem?_set_ne (by omega)
  have z0 := r4 0
  have z1 := r4 1
  have z2 := r4 2
  have z3 := r4 3
  simp only [List.getElem?_cons_zero, List.getElem?_cons_succ] at z0 z1 z2 z3
  simp (config := {implicitDefEqProofs := false, maxDischargeDepth := 20}) (disch := first | omega | (simp only [lenE]; done) | (simp only [lenE]; omega) | rfl | (simp only [lenE, markR_len]; done) | (simp only [lenE, markR_len]; omega)) only [runE, mapE, listE, initT_5, initT_6, initT_7, initT_8, resV, oneV, binA, unA, reduceCtorEq, Nat.reduceEqDiff, Nat.reduceAdd, Nat.reduceLT, Nat.reduceLeDiff, Nat.reduceMul, Nat.reduceSub, ↓reduceIte, decide_true, decide_false, Bool.true_eq_false, Bool.false_eq_true, Bool.not_true, Bool.not_false, if_true, if_false, and_true, true_and, memE, celE, w64, Nat.zero_add, Nat.add_zero, Nat.mul_one, putL, and_self, ldn, stP_aggL, s4, z0, z1, z2, z3]
  exact fin_case x4 lv4 (by omega)
theorem DrawHorizonsOf_rc (m : Mem) (cb fl : Nat) (l : List Int) (h : BytesA m cb l) :
    RC Try.prog 5 [.slice (some ⟨cb, 0, none⟩) l.length fl] m (AnsC1 m) := by
  refine rc_of_run mixed ok_spec_DrawHorizonsOf (by simp) (go_start _ _ _ ?_)
  have hb : BytesA (roM m ++ [⟨.own, 26, [.slice none 0 0, .slice none 0 0, .slice none 0 0, .slice none 0 0]⟩]) cb l := by
    have := h.ro
    exact ⟨⟨.ro, by simp, by rw [List.getElem?_append_left (List.getElem?_eq_some_iff.1 this).1]; exact this⟩, h.byte, h.few⟩
  simp (config := {implicitDefEqProofs := false, maxDischargeDepth := 20}) (disch := first | omega | (simp only [lenE]; done) | (simp only [lenE]; omega) | rfl | (simp only [lenE, markR_len]; done) | (simp only [lenE, markR_len]; omega)) only [runE, mapE, listE, initT_5, initT_6, initT_7, initT_8, resV, oneV, binA, unA, reduceCtorEq, Nat.reduceEqDiff, Nat.reduceAdd, Nat.reduceLT, Nat.reduceLeDiff, Nat.reduceMul, Nat.reduceSub, ↓reduceIte, decide_true, decide_false, Bool.true_eq_false, Bool.false_eq_true, Bool.not_true, Bool.not_false, if_true, if_false, and_true, true_and, memE, celE, w64, Nat.zero_add, Nat.add_zero, Nat.mul_one, putL, and_self, ldn, c_spec_DrawHorizonsOf, r_spec_DrawHorizonsOf]
  refine callH_rc (DrawForwardCosts_rc _ cb fl l hb) ?_
  intro r new hA
  obtain ⟨v1, v2, v3, v4, M2, rfl, s1, r0, r1, r2, r3, fin⟩ := case_on hA
  simp (config := {implicitDefEqProofs := false, maxDischargeDepth := 20}) (disch := first | omega | (simp only [lenE]; done) | (simp only [lenE]; omega) | rfl | (simp only [lenE, markR_len]; done) | (simp only [lenE, markR_len]; omega)) only [runE, mapE, listE, initT_5, initT_6, initT_7, initT_8, resV, oneV, binA, unA, reduceCtorEq, Nat.reduceEqDiff, Nat.reduceAdd, Nat.reduceLT, Nat.reduceLeDiff, Nat.reduceMul, Nat.reduceSub, ↓reduceIte, decide_true, decide_false, Bool.true_eq_false, Bool.false_eq_true, Bool.not_true, Bool.not_false, if_true, if_false, and_true, true_and, memE, celE, w64, Nat.zero_add, Nat.add_zero, Nat.mul_one, putL, and_self, ldn, stP_aggL, s1, r0, r1, r2, r3]
  exact fin
end Go.Proofs.Ytibkaclkaigflaa.Ab
end
section
namespace Go.Proofs.Ytibkaclkaigflaa.Ab
open Go Go.RowKit
set_option linter.unusedVariables false
set_option linter.unusedSimpArgs false
theorem vHas_rc (m : Mem) (v : Value) (l : List Int) (x : Int) (h : IntsA m v l) : RC Try.prog 18 [v, .int .i64 x] m fun r new => r = .bool (decide (x ∈ l)) ∧ new = [] := by
  refine rc_of_run mixed ok_laws_vHas (by simp) (go_start _ _ _ ?_)
  obtain ⟨e1, e2, e3, e4, -⟩ := h.ro
  simp (config := {implicitDefEqProofs := false, maxDischargeDepth := 20}) (disch := first | omega | (simp only [lenE]; done) | (simp only [lenE]; omega) | rfl | (simp only [lenE, markR_len]; done) | (simp only [lenE, markR_len]; omega)) only [runE, mapE, listE, initT_5, initT_6, initT_7, initT_8, resV, oneV, binA, unA, reduceCtorEq, Nat.reduceEqDiff, Nat.reduceAdd, Nat.reduceLT, Nat.reduceLeDiff, Nat.reduceMul, Nat.reduceSub, ↓reduceIte, decide_true, decide_false, Bool.true_eq_false, Bool.false_eq_true, Bool.not_true, Bool.not_false, if_true, if_false, and_true, true_and, memE, celE, w64, Nat.zero_add, Nat.add_zero, Nat.mul_one, putL, and_self, ldn, c_laws_vHas, r_laws_vHas]
  refine loop_inv mixed (fun s => ∃ k : Nat, k ≤ l.length ∧ s.t 0 = v ∧ s.t 1 = .int .i64 x ∧ s.t 5 = .int .i64 k ∧ s.m = roM m ∧ (∀ j, j < k → l.getD j 0 ≠ x)) (fun s => l.length - (intOf (s.t 5)).toNat) ⟨0, by omega, rfl, rfl, rfl, rfl, fun j hj => absurd hj (by omega)⟩ ?_
  rintro s ⟨k, hk, t0, t1, t5, tm, hno⟩
  by_cases hlt : k < l.length
  · have hlt' : (k : Int) < l.length := by omega
    cases he : (l.getD k 0 == x) with
    | true =>
      simp (config := {implicitDefEqProofs := false, maxDischargeDepth := 20}) (disch := first | omega | (simp only [lenE]; done) | (simp only [lenE]; omega) | rfl | (simp only [lenE, markR_len]; done) | (simp only [lenE, markR_len]; omega)) only [runE, mapE, listE, initT_5, initT_6, initT_7, initT_8, resV, oneV, binA, unA, reduceCtorEq, Nat.reduceEqDiff, Nat.reduceAdd, Nat.reduceLT, Nat.reduceLeDiff, Nat.reduceMul, Nat.reduceSub, ↓reduceIte, decide_true, decide_false, Bool.true_eq_false, Bool.false_eq_true, Bool.not_true, Bool.not_false, if_true, if_false, and_true, true_and, memE, celE, w64, Nat.zero_add, Nat.add_zero, Nat.mul_one, putL, and_self, ldn, t0, t1, t5, tm, e1, e3 k hlt, e4 k hlt, hlt', he]
      refine newQ_nil ⟨?_, rfl⟩
      rw [decide_eq_true]
      rw [← beq_iff_eq.1 he, List.getD_eq_getElem?_getD, List.getElem?_eq_getElem hlt]
      exact List.getElem_mem _
    | false =>
      simp (config := {implicitDefEqProofs := false, maxDischargeDepth := 20}) (disch := first | omega | (simp only [lenE]; done) | (simp only [lenE]; omega) | rfl | (simp only [lenE, markR_len]; done) | (simp only [lenE, markR_len]; omega)) only [runE, mapE, listE, initT_5, initT_6, initT_7, initT_8, resV, oneV, binA, unA, reduceCtorEq, Nat.reduceEqDiff, Nat.reduceAdd, Nat.reduceLT, Nat.reduceLeDiff, Nat.reduceMul, Nat.reduceSub, ↓reduceIte, decide_true, decide_false, Bool.true_eq_false, Bool.false_eq_true, Bool.not_true, Bool.not_false, if_true, if_false, and_true, true_and, memE, celE, w64, Nat.zero_add, Nat.add_zero, Nat.mul_one, putL, and_self, ldn, t0, t1, t5, tm, e1, e3 k hlt, e4 k hlt, hlt', he]
      refine ⟨⟨k + 1, by omega, by simp, fun j hj => ?_⟩, by simp [intOf]; omega⟩
      by_cases e : j = k
      · rw [e]; simpa using he
      · exact hno j (by omega)
  · have hlt' : ¬ ((k : Int) < l.length) := by omega
    simp (config := {implicitDefEqProofs := false, maxDischargeDepth := 20}) (disch := first | omega | (simp only [lenE]; done) | (simp only [lenE]; omega) | rfl | (simp only [lenE, markR_len]; done) | (simp only [lenE, markR_len]; omega)) only [runE, mapE, listE, initT_5, initT_6, initT_7, initT_8, resV, oneV, binA, unA, reduceCtorEq, Nat.reduceEqDiff, Nat.reduceAdd, Nat.reduceLT, Nat.reduceLeDiff, Nat.reduceMul, Nat.reduceSub, ↓reduceIte, decide_true, decide_false, Bool.true_eq_false, Bool.false_eq_true, Bool.not_true, Bool.not_false, if_true, if_false, and_true, true_and, memE, celE, w64, Nat.zero_add, Nat.add_zero, Nat.mul_one, putL, and_self, ldn, t0, t1, t5, tm, e1, hlt']
    refine newQ_nil ⟨?_, rfl⟩
    rw [decide_eq_false]
    intro hm
    obtain ⟨j, hj, e⟩ := List.getElem_of_mem hm
    refine hno j (by omega) ?_
    rw [List.getD_eq_getElem?_getD, List.getElem?_eq_getElem hj]; exact e

end Go.Proofs.Ytibkaclkaigflaa.Ab
end
section
namespace Go.Proofs.Ytibkaclkaigflaa
set_option linter.unusedVariables false
set_option linter.unusedSimpArgs false
structure Rising (ps : List Int) (n : Nat) : Prop where
  bd : ∀ i, i < ps.length → 0 ≤ ps.getD i 0 ∧ ps.getD i 0 < n
  up : ∀ i, i + 1 < ps.length → ps.getD i 0 < ps.getD (i + 1) 0
def nxtP (n : Nat) (ps : List Int) (i : Nat) : Nat := if i + 1 < ps.length then (ps.getD (i + 1) 0).toNat else n
theorem nxtP_in {n : Nat} {ps : List Int} (h : Rising ps n) {i : Nat} (hi : i < ps.length) : (ps.getD i 0).toNat ≤ nxtP n ps i ∧ nxtP n ps i ≤ n := by
  have h1 := h.bd i hi
  unfold nxtP
  by_cases h2 : i + 1 < ps.length
  · rw [if_pos h2]
    have := h.bd (i + 1) h2
    have := h.up i h2
    omega
  · rw [if_neg h2]; omega
def fromI (need ps : List Int) : Nat → List Int
  | 0 => List.replicate need.length 0
  | i + 1 => (fromI need ps i).set (ps.getD i 0).toNat (sumR need (ps.getD i 0).toNat (nxtP need.length ps i))
def fromL (need ps : List Int) : List Int := fromI need ps ps.length
theorem fromI_len (need ps : List Int) (i : Nat) : (fromI need ps i).length = need.length := by
  induction i with
  | zero => simp [fromI]
  | succ i ih => rw [fromI, List.length_set, ih]
theorem fromI_in {need ps : List Int} (hn : ∀ x ∈ need, 0 ≤ x ∧ x ≤ 20) (h8 : need.length ≤ 8) (h : Rising ps need.length) (i : Nat) (hi : i ≤ ps.length) : ∀ x ∈ fromI need ps i, 0 ≤ x ∧ x ≤ 160 := by
  induction i with
  | zero => intro x hx; rw [fromI] at hx; have := List.eq_of_mem_replicate hx; omega
  | succ i ih =>
    intro x hx
    rw [fromI] at hx
    have h1 := nxtP_in h (i := i) (by omega)
    rcases List.mem_or_eq_of_mem_set hx with h2 | h2
    · exact ih (by omega) x h2
    · have a := sumR_nn (m := 20) (by omega) hn h1.1
      have b := sumR_le8 (m := 20) (by omega) hn h1.1 (by omega)
      omega
theorem fromL_len (need ps : List Int) : (fromL need ps).length = need.length := fromI_len _ _ _
theorem fromL_in {need ps : List Int} (hn : ∀ x ∈ need, 0 ≤ x ∧ x ≤ 20) (h8 : need.length ≤ 8) (h : Rising ps need.length) : ∀ x ∈ fromL need ps, 0 ≤ x ∧ x ≤ 160 := fromI_in hn h8 h _ (Nat.le_refl _)
def covers (need ps : List Int) : Bool := decide (∀ t, t < need.length → (t : Int) < ps.headD need.length → need.getD t 0 ≤ 0)
def bitsL (c : Nat) : Nat → List Int
  | 0 => []
  | x + 1 => if c / 2 ^ x % 2 = 1 then bitsL c x ++ [(x : Int)] else bitsL c x
theorem bitsL_mem (c x : Nat) : ∀ y ∈ bitsL c x, 0 ≤ y ∧ y < (x : Int) := by
  induction x with
  | zero => intro y hy; simp [bitsL] at hy
  | succ x ih =>
    intro y hy
    rw [bitsL] at hy
    split at hy
    · rcases List.mem_append.1 hy with h | h
      · have := ih y h; omega
      · simp at h; omega
    · have := ih y hy; omega
theorem getD_app_l (l r : List Int) {i : Nat} (h : i < l.length) : (l ++ r).getD i 0 = l.getD i 0 := by
  rw [List.getD_eq_getElem?_getD, List.getElem?_append_left h, ← List.getD_eq_getElem?_getD]
theorem getD_app_one (l : List Int) (x : Int) : (l ++ [x]).getD l.length 0 = x := by simp [List.getD_eq_getElem?_getD]
theorem getD_mem {l : List Int} {i : Nat} (h : i < l.length) : l.getD i 0 ∈ l := by
  rw [List.getD_eq_getElem?_getD, List.getElem?_eq_getElem h]; exact List.getElem_mem h
theorem bitsL_rising (c x : Nat) : Rising (bitsL c x) x := by
  refine ⟨fun i hi => bitsL_mem c x _ (getD_mem hi), ?_⟩
  induction x with
  | zero => intro i hi; simp [bitsL] at hi
  | succ x ih =>
    intro i hi
    rw [bitsL] at hi ⊢
    by_cases hb : c / 2 ^ x % 2 = 1
    · rw [if_pos hb] at hi ⊢
      simp only [List.length_append, List.length_cons, List.length_nil] at hi
      rw [getD_app_l _ _ (by omega)]
      by_cases h2 : i + 1 < (bitsL c x).length
      · rw [getD_app_l _ _ h2]; exact ih i h2
      · have e : i + 1 = (bitsL c x).length := by omega
        rw [e, getD_app_one]
        exact (bitsL_mem c x _ (getD_mem (by omega))).2
    · rw [if_neg hb] at hi ⊢; exact ih i hi
def lexB : List Int → List Int → Bool
  | x :: xs, y :: ys => if x = y then lexB xs ys else decide (x < y)
  | _, _ => false
def beforeB (a b : List Int) : Bool := if a.length = b.length then lexB a b else decide (a.length < b.length)
def stepB (k : Cs) (b : List Int × Int) (ps : List Int) : List Int × Int :=
  if covers k.need ps then
    (if b.2 < 0 ∨ costOf k (fromL k.need ps) < b.2 ∨ (costOf k (fromL k.need ps) = b.2 ∧ beforeB ps b.1 = true) then (ps, costOf k (fromL k.need ps)) else b)
  else b
def bestC (k : Cs) : Nat → List Int × Int
  | 0 => ([], -1)
  | c + 1 => stepB k (bestC k c) (bitsL c k.need.length)
def bestL (k : Cs) : List Int := (bestC k (2 ^ k.need.length)).1
theorem bestC_rising (k : Cs) (c : Nat) : Rising (bestC k c).1 k.need.length := by
  induction c with
  | zero => exact ⟨fun i hi => absurd hi (by simp [bestC]), fun i hi => absurd hi (by simp [bestC])⟩
  | succ c ih =>
    rw [bestC, stepB]
    split
    · split
      · exact bitsL_rising _ _
      · exact ih
    · exact ih
def bestCost (k : Cs) : Int := costOf k (fromL k.need (bestL k))

def beg (n : Nat) (ps : List Int) (i : Nat) : Nat := if i < ps.length then (ps.getD i 0).toNat else n
theorem nxt_beg (n : Nat) (ps : List Int) (i : Nat) : nxtP n ps i = beg n ps (i + 1) := rfl
theorem Rising.lt {ps : List Int} {n : Nat} (h : Rising ps n) {i j : Nat} (hij : i < j) (hj : j < ps.length) : ps.getD i 0 < ps.getD j 0 := by
  induction j with
  | zero => omega
  | succ j ih =>
    have := h.up j hj
    by_cases e : i = j
    · subst e; exact this
    · have := ih (by omega) (by omega); omega
theorem Rising.nil (n : Nat) : Rising [] n := ⟨fun i hi => absurd hi (by simp), fun i hi => absurd hi (by simp)⟩
theorem beg_le {n : Nat} {ps : List Int} (h : Rising ps n) (i : Nat) : beg n ps i ≤ n := by
  unfold beg
  split
  · have := h.bd i ‹_›; omega
  · omega
theorem beg_nil (n i : Nat) : beg n [] i = n := by simp [beg]
theorem beg_cons0 (n : Nat) (p : Int) (r : List Int) : beg n (p :: r) 0 = p.toNat := by simp [beg]
theorem beg_cons (n : Nat) (p : Int) (r : List Int) (i : Nat) : beg n (p :: r) (i + 1) = beg n r i := by
  unfold beg
  by_cases h : i < r.length
  · rw [if_pos (by simpa using h), if_pos h]; rfl
  · rw [if_neg (by simpa using h), if_neg h]
theorem Rising.tail {p : Int} {r : List Int} {n : Nat} (h : Rising (p :: r) n) : Rising r n ∧ 0 ≤ p ∧ p.toNat < beg n r 0 := by
  have h0 := h.bd 0 (by simp)
  simp only [List.getD_cons_zero] at h0
  refine ⟨⟨fun i hi => ?_, fun i hi => ?_⟩, h0.1, ?_⟩
  · have := h.bd (i + 1) (by simpa using hi); simpa using this
  · have := h.up (i + 1) (by simpa using hi); simpa using this
  · unfold beg
    split
    · rename_i hl
      have := h.up 0 (by simpa using hl)
      simp only [List.getD_cons_zero, Nat.zero_add, List.getD_cons_succ] at this
      omega
    · omega
theorem Rising.cons {p : Int} {r : List Int} {n : Nat} (h : Rising r n) (h0 : 0 ≤ p) (hp : p.toNat < beg n r 0) : Rising (p :: r) n := by
  have hb := beg_le h 0
  refine ⟨fun i hi => ?_, fun i hi => ?_⟩
  · cases i with
    | zero => simp only [List.getD_cons_zero]; omega
    | succ i => have := h.bd i (by simpa using hi); simpa using this
  · cases i with
    | zero =>
      simp only [List.getD_cons_zero, Nat.zero_add, List.getD_cons_succ]
      have hl : 0 < r.length := by simpa using hi
      unfold beg at hp
      rw [if_pos hl] at hp
      omega
    | succ i => have := h.up i (by simpa using hi); simpa using this

def costI (k : Cs) (n : Nat) (ps : List Int) : Nat → Int
  | 0 => 0
  | i + 1 => costI k n ps i + spanF k (beg n ps i) (beg n ps (i + 1))
def costL (k : Cs) (n : Nat) (ps : List Int) : Int := costI k n ps ps.length
theorem costI_cons (k : Cs) (n : Nat) (p : Int) (r : List Int) (i : Nat) : costI k n (p :: r) (i + 1) = spanF k p.toNat (beg n r 0) + costI k n r i := by
  induction i with
  | zero => rw [costI, costI, costI, beg_cons0, beg_cons]; omega
  | succ i ih => rw [costI, ih, beg_cons, beg_cons, costI]; omega
theorem costL_nil (k : Cs) (n : Nat) : costL k n [] = 0 := rfl
theorem costL_cons (k : Cs) (n : Nat) (p : Int) (r : List Int) : costL k n (p :: r) = spanF k p.toNat (beg n r 0) + costL k n r := costI_cons k n p r r.length
theorem beg_mono {n : Nat} {ps : List Int} (h : Rising ps n) (i : Nat) (hi : i < ps.length) : beg n ps i < beg n ps (i + 1) ∨ (beg n ps i ≤ n ∧ beg n ps (i + 1) = n ∧ beg n ps i < n) := by
  have h1 := h.bd i hi
  unfold beg
  rw [if_pos hi]
  split
  · have := h.up i ‹_›; have := h.bd (i + 1) ‹_›; left; omega
  · right; omega
theorem beg_lt {n : Nat} {ps : List Int} (h : Rising ps n) {i : Nat} (hi : i < ps.length) : beg n ps i < beg n ps (i + 1) := by
  rcases beg_mono h i hi with h | ⟨_, h1, h2⟩ <;> omega
theorem costI_in {k : Cs} (hg : Good k) {ps : List Int} (h : Rising ps k.need.length) (i : Nat) (hi : i ≤ ps.length) : 0 ≤ costI k k.need.length ps i ∧ costI k k.need.length ps i ≤ 13059 * i := by
  induction i with
  | zero => simp [costI]
  | succ i ih =>
    have h1 := beg_lt h (i := i) (by omega)
    have h2 := beg_le h (i + 1)
    have h3 := hg.n8
    have := spanF_in hg (Nat.le_of_lt h1) (by omega)
    have := ih (by omega)
    rw [costI]
    omega
theorem Rising.len {n : Nat} : ∀ {ps : List Int}, Rising ps n → ps.length + beg n ps 0 ≤ n := by
  intro ps
  induction ps with
  | nil => intro h; rw [beg_nil]; simp
  | cons p r ih =>
    intro h
    obtain ⟨h1, h2, h3⟩ := h.tail
    have := ih h1
    rw [beg_cons0, List.length_cons]
    omega
theorem costL_in {k : Cs} (hg : Good k) {ps : List Int} (h : Rising ps k.need.length) : 0 ≤ costL k k.need.length ps ∧ costL k k.need.length ps ≤ 104472 := by
  have h1 := costI_in hg h ps.length (Nat.le_refl _)
  have h2 := h.len
  have h3 := hg.n8
  unfold costL
  omega
theorem fromI_no {need ps : List Int} (h : Rising ps need.length) {t : Nat} : ∀ i, i ≤ ps.length → (∀ j, j < i → ps.getD j 0 ≠ t) → (fromI need ps i).getD t 0 = 0 := by
  intro i
  induction i with
  | zero => intro _ _; rw [fromI, List.getD_eq_getElem?_getD, List.getElem?_replicate]; split <;> rfl
  | succ i ih =>
    intro hi hne
    have h1 := h.bd i (by omega)
    have h2 := hne i (by omega)
    rw [fromI, List.getD_eq_getElem?_getD, List.getElem?_set_ne (by omega), ← List.getD_eq_getElem?_getD]
    exact ih (by omega) fun j hj => hne j (by omega)
theorem fromI_at {need ps : List Int} (h : Rising ps need.length) {j : Nat} : ∀ i, i ≤ ps.length → j < i → (fromI need ps i).getD (beg need.length ps j) 0 = sumR need (beg need.length ps j) (beg need.length ps (j + 1)) := by
  intro i
  induction i with
  | zero => intro _ hj; omega
  | succ i ih =>
    intro hi hj
    have h1 := h.bd i (by omega)
    have hbi : beg need.length ps i = (ps.getD i 0).toNat := by unfold beg; rw [if_pos (by omega)]
    have hbj : beg need.length ps j = (ps.getD j 0).toNat := by unfold beg; rw [if_pos (by omega)]
    rw [fromI]
    by_cases e : j = i
    · subst e
      rw [nxt_beg, ← hbi, List.getD_eq_getElem?_getD, List.getElem?_set_self (by rw [fromI_len, hbi]; omega)]
      rfl
    · have h2 := h.lt (i := j) (j := i) (by omega) (by omega)
      have h3 := h.bd j (by omega)
      rw [List.getD_eq_getElem?_getD, List.getElem?_set_ne (by omega), ← List.getD_eq_getElem?_getD]
      exact ih (by omega) (by omega)
def cT (k : Cs) (plan : List Int) (t : Nat) : Int := cSet k plan t + cUnit k plan t + cHold k plan t
theorem seg_cost {k : Cs} (hg : Good k) {plan : List Int} {p e : Nat} (hpe : p < e) (hs : sumTo plan p = sumTo k.need p) (ha : plan.getD p 0 = sumR k.need p e) (hz : ∀ t, p < t → t < e → plan.getD t 0 = 0) (d : Nat) (hd : p + d + 1 ≤ e) :
    sumTo plan (p + d + 1) = sumTo k.need e ∧ cT k plan (p + d + 1) = cT k plan p + (if 0 < sumR k.need p e then k.setup.getD p 0 else 0) + k.unit.getD p 0 * sumR k.need p e + holdS k p e (p + d + 1) := by
  induction d with
  | zero =>
    have h1 : sumTo plan (p + 1) = sumTo k.need e := by rw [sumTo_g, ha, hs]; unfold sumR; omega
    refine ⟨h1, ?_⟩
    have h2 : stk plan k.need p = sumR k.need (p + 1) e := by unfold stk sumR; rw [h1]
    rw [Nat.add_zero, holdS_s k (Nat.le_refl _), holdS_self]
    unfold cT
    rw [cSet, cUnit, cHold, ha, h2]
    split <;> omega
  | succ d ih =>
    obtain ⟨i1, i2⟩ := ih (by omega)
    have hz' := hz (p + d + 1) (by omega) (by omega)
    have h1 : sumTo plan (p + d + 1 + 1) = sumTo k.need e := by rw [sumTo_g, hz', i1]; omega
    refine ⟨h1, ?_⟩
    have h2 : stk plan k.need (p + d + 1) = sumR k.need (p + d + 1 + 1) e := by unfold stk sumR; rw [h1]
    rw [show p + (d + 1) + 1 = p + d + 1 + 1 by omega, holdS_s k (by omega)]
    unfold cT at i2 ⊢
    rw [cSet, cUnit, cHold, hz', h2, if_neg (by omega), Int.mul_zero]
    omega
theorem holdS_none {k : Cs} (hg : Good k) {p e : Nat} (h : sumR k.need p e = 0) (d : Nat) (hd : p + d ≤ e) : holdS k p e (p + d) = 0 := by
  induction d with
  | zero => exact holdS_self k p e
  | succ d ih =>
    have h1 := sumR_nn (m := 20) (by omega) hg.need (i := p) (j := p + d + 1) (by omega)
    have h2 := sumR_nn (m := 20) (by omega) hg.need (i := p + d + 1) (j := e) (by omega)
    have h3 := sumR_add k.need p (p + d + 1) e
    have h4 : sumR k.need (p + d + 1) e = 0 := by omega
    rw [← Nat.add_assoc, holdS_s k (by omega), ih (by omega), h4]
    simp
theorem seg_span {k : Cs} (hg : Good k) {plan : List Int} {p e : Nat} (hpe : p < e) (hs : sumTo plan p = sumTo k.need p) (ha : plan.getD p 0 = sumR k.need p e) (hz : ∀ t, p < t → t < e → plan.getD t 0 = 0) :
    sumTo plan e = sumTo k.need e ∧ cT k plan e = cT k plan p + spanF k p e := by
  obtain ⟨h1, h2⟩ := seg_cost hg hpe hs ha hz (e - p - 1) (by omega)
  rw [show p + (e - p - 1) + 1 = e by omega] at h1 h2
  refine ⟨h1, ?_⟩
  have hnn := sumR_nn (m := 20) (by omega) hg.need (i := p) (j := e) (by omega)
  by_cases h0 : 0 < sumR k.need p e
  · rw [h2, spanF_order k (by omega) h0, if_pos h0]; omega
  · have hz0 : sumR k.need p e = 0 := by omega
    have hh := holdS_none hg hz0 (e - p) (by omega)
    rw [show p + (e - p) = e by omega] at hh
    rw [h2, hh, spanF_zero k hz0, hz0, Int.mul_zero]
    simp
theorem cov_zero {k : Cs} (hg : Good k) {ps : List Int} (hr : Rising ps k.need.length) (hc : covers k.need ps = true) (t : Nat) (ht : t < beg k.need.length ps 0) : k.need.getD t 0 = 0 := by
  have hb := beg_le hr 0
  have hn := getD_bound (m := 20) (by omega) hg.need t
  have h := of_decide_eq_true hc t (by omega) ?_
  · omega
  · cases ps with
    | nil => simp [beg] at ht; exact Int.ofNat_lt.2 ht
    | cons p r =>
      rw [beg_cons0] at ht
      show (t : Int) < p
      omega
theorem fromL_cost {k : Cs} (hg : Good k) {ps : List Int} (hr : Rising ps k.need.length) (hc : covers k.need ps = true) : costOf k (fromL k.need ps) = costL k k.need.length ps := by
  obtain ⟨plan, hplan⟩ : ∃ plan, plan = fromL k.need ps := ⟨_, rfl⟩
  have hno : ∀ t : Nat, (∀ j, j < ps.length → ps.getD j 0 ≠ (t : Int)) → plan.getD t 0 = 0 := fun t h => by rw [hplan]; exact fromI_no hr _ (Nat.le_refl _) h
  have hat : ∀ j, j < ps.length → plan.getD (beg k.need.length ps j) 0 = sumR k.need (beg k.need.length ps j) (beg k.need.length ps (j + 1)) := fun j h => by rw [hplan]; exact fromI_at hr _ (Nat.le_refl _) h
  have hbj : ∀ j, j < ps.length → (beg k.need.length ps j : Int) = ps.getD j 0 := fun j hj => by
    have := hr.bd j hj
    unfold beg; rw [if_pos hj]; omega
  have start : ∀ t, t ≤ beg k.need.length ps 0 → sumTo plan t = sumTo k.need t ∧ cT k plan t = 0 := by
    intro t
    induction t with
    | zero => intro _; exact ⟨rfl, rfl⟩
    | succ t ih =>
      intro ht
      obtain ⟨i1, i2⟩ := ih (by omega)
      have hz := cov_zero hg hr hc t (by omega)
      have hp : plan.getD t 0 = 0 := hno t fun j hj he => by
        have h0 : 0 < ps.length := by omega
        have := hbj 0 h0
        rcases Nat.eq_zero_or_pos j with e | e
        · subst e; omega
        · have := hr.lt (i := 0) (j := j) e hj; omega
      have s1 : sumTo plan (t + 1) = sumTo k.need (t + 1) := by rw [sumTo_g, sumTo_g, i1, hp, hz]
      refine ⟨s1, ?_⟩
      have s2 : stk plan k.need t = 0 := by unfold stk; omega
      unfold cT at i2 ⊢
      rw [cSet, cUnit, cHold, hp, s2, if_neg (by omega), Int.mul_zero, Int.mul_zero]
      omega
  have main : ∀ i, i ≤ ps.length → sumTo plan (beg k.need.length ps i) = sumTo k.need (beg k.need.length ps i) ∧ cT k plan (beg k.need.length ps i) = costI k k.need.length ps i := by
    intro i
    induction i with
    | zero => intro _; exact start _ (Nat.le_refl _)
    | succ i ih =>
      intro hi
      obtain ⟨i1, i2⟩ := ih (by omega)
      obtain ⟨s1, s2⟩ := seg_span hg (beg_lt hr (by omega)) i1 (hat i (by omega)) fun t h1 h2 => hno t fun j hj he => by
        have h3 := hbj i (by omega)
        have h4 := hbj j hj
        by_cases hlt : j ≤ i
        · rcases Nat.lt_or_eq_of_le hlt with h | h
          · have := hr.lt h (by omega); omega
          · subst h; omega
        · have h5 := hbj (i + 1) (by omega)
          rcases Nat.lt_or_eq_of_le (show i + 1 ≤ j by omega) with h | h
          · have := hr.lt h hj; omega
          · subst h; omega
      exact ⟨s1, by rw [s2, i2, costI]⟩
  have hend := (main ps.length (Nat.le_refl _)).2
  have hl : beg k.need.length ps ps.length = k.need.length := by unfold beg; rw [if_neg (by omega)]
  rw [hl] at hend
  have hpl : plan.length = k.need.length := by rw [hplan]; exact fromL_len _ _
  rw [← hplan]
  unfold costOf costL
  rw [hpl]
  exact hend

theorem lexB_irr (a : List Int) : lexB a a = false := by
  induction a with
  | nil => rfl
  | cons x a ih => rw [lexB, if_pos rfl, ih]
theorem lexB_trans : ∀ {a b c : List Int}, lexB a b = true → lexB b c = true → lexB a c = true := by
  intro a
  induction a with
  | nil => intro b c h; simp [lexB] at h
  | cons x a ih =>
    intro b c h1 h2
    cases b with
    | nil => simp [lexB] at h1
    | cons y b =>
      cases c with
      | nil => simp [lexB] at h2
      | cons z c =>
        rw [lexB] at h1 h2 ⊢
        by_cases e1 : x = y
        · rw [if_pos e1] at h1
          by_cases e2 : y = z
          · rw [if_pos e2] at h2
            rw [if_pos (e1.trans e2)]
            exact ih h1 h2
          · rw [if_neg e2] at h2
            rw [if_neg (fun e => e2 (e1.symm.trans e)), e1]
            exact h2
        · rw [if_neg e1] at h1
          have l1 := of_decide_eq_true h1
          by_cases e2 : y = z
          · rw [if_neg (fun e => e1 (e.trans e2.symm))]
            exact decide_eq_true (by omega)
          · rw [if_neg e2] at h2
            have l2 := of_decide_eq_true h2
            rw [if_neg (by omega)]
            exact decide_eq_true (by omega)
theorem lexB_tot : ∀ {a b : List Int}, a.length = b.length → a = b ∨ lexB a b = true ∨ lexB b a = true := by
  intro a
  induction a with
  | nil => intro b h; left; exact (List.eq_nil_of_length_eq_zero (by rw [← h]; rfl)).symm
  | cons x a ih =>
    intro b h
    cases b with
    | nil => simp at h
    | cons y b =>
      rw [lexB, lexB]
      by_cases e : x = y
      · subst e
        rw [if_pos rfl, if_pos rfl]
        rcases ih (b := b) (by simpa using h) with h | h | h
        · left; rw [h]
        · right; left; exact h
        · right; right; exact h
      · rw [if_neg e, if_neg (Ne.symm e)]
        rcases Int.lt_or_gt_of_ne e with h | h
        · right; left; exact decide_eq_true h
        · right; right; exact decide_eq_true h
theorem beforeB_irr (a : List Int) : beforeB a a = false := by unfold beforeB; rw [if_pos rfl, lexB_irr]
theorem beforeB_trans {a b c : List Int} (h1 : beforeB a b = true) (h2 : beforeB b c = true) : beforeB a c = true := by
  unfold beforeB at *
  by_cases e1 : a.length = b.length
  · rw [if_pos e1] at h1
    by_cases e2 : b.length = c.length
    · rw [if_pos e2] at h2
      rw [if_pos (e1.trans e2)]
      exact lexB_trans h1 h2
    · rw [if_neg e2] at h2
      rw [if_neg (by omega), e1]; exact h2
  · rw [if_neg e1] at h1
    have l1 := of_decide_eq_true h1
    by_cases e2 : b.length = c.length
    · rw [if_neg (by omega)]; exact decide_eq_true (by omega)
    · rw [if_neg e2] at h2
      have l2 := of_decide_eq_true h2
      rw [if_neg (by omega)]; exact decide_eq_true (by omega)
theorem beforeB_tot (a b : List Int) : a = b ∨ beforeB a b = true ∨ beforeB b a = true := by
  unfold beforeB
  by_cases e : a.length = b.length
  · rw [if_pos e, if_pos e.symm]; exact lexB_tot e
  · rw [if_neg e, if_neg (Ne.symm e)]
    rcases Nat.lt_or_gt_of_ne e with h | h
    · right; left; exact decide_eq_true h
    · right; right; exact decide_eq_true h
def bef (a b : Int × List Int) : Bool := if a.1 = b.1 then beforeB a.2 b.2 else decide (a.1 < b.1)
theorem bef_irr (a : Int × List Int) : bef a a = false := by unfold bef; rw [if_pos rfl, beforeB_irr]
theorem bef_trans {a b c : Int × List Int} (h1 : bef a b = true) (h2 : bef b c = true) : bef a c = true := by
  unfold bef at *
  by_cases e1 : a.1 = b.1
  · rw [if_pos e1] at h1
    by_cases e2 : b.1 = c.1
    · rw [if_pos e2] at h2
      rw [if_pos (e1.trans e2)]
      exact beforeB_trans h1 h2
    · rw [if_neg e2] at h2
      rw [if_neg (fun e => e2 (e1.symm.trans e)), e1]; exact h2
  · rw [if_neg e1] at h1
    have l1 := of_decide_eq_true h1
    by_cases e2 : b.1 = c.1
    · rw [if_neg (by omega)]; exact decide_eq_true (by omega)
    · rw [if_neg e2] at h2
      have l2 := of_decide_eq_true h2
      rw [if_neg (by omega)]; exact decide_eq_true (by omega)
theorem bef_tot (f : List Int → Int) (a b : List Int) : a = b ∨ bef (f a, a) (f b, b) = true ∨ bef (f b, b) (f a, a) = true := by
  unfold bef
  by_cases e : f a = f b
  · simp only [if_pos e, if_pos e.symm]; exact beforeB_tot a b
  · simp only [if_neg e, if_neg (Ne.symm e)]
    rcases Int.lt_or_gt_of_ne e with h | h
    · right; left; exact decide_eq_true h
    · right; right; exact decide_eq_true h
theorem bef_asymm {a b : Int × List Int} (h : bef a b = true) : bef b a = false := by
  cases hb : bef b a with
  | false => rfl
  | true => have := bef_trans h hb; rw [bef_irr] at this; cases this

def IsMin (S : List Int → Prop) (f : List Int → Int) (b : List Int) : Prop := S b ∧ ∀ y, S y → y = b ∨ bef (f b, b) (f y, y) = true
theorem IsMin.uniq {S : List Int → Prop} {f : List Int → Int} {a b : List Int} (ha : IsMin S f a) (hb : IsMin S f b) : a = b := by
  rcases ha.2 b hb.1 with h | h
  · exact h.symm
  · rcases hb.2 a ha.1 with h' | h'
    · exact h'
    · rw [bef_asymm h] at h'; cases h'
theorem IsMin.congr {S T : List Int → Prop} {f : List Int → Int} {a : List Int} (ha : IsMin S f a) (h : ∀ y, T y ↔ S y) : IsMin T f a :=
  ⟨(h a).2 ha.1, fun y hy => ha.2 y ((h y).1 hy)⟩
theorem IsMin.union {S T : List Int → Prop} {f : List Int → Int} {a b : List Int} (ha : IsMin S f a) (hb : IsMin T f b) :
    IsMin (fun y => S y ∨ T y) f (if bef (f b, b) (f a, a) = true then b else a) := by
  by_cases h : bef (f b, b) (f a, a) = true
  · rw [if_pos h]
    refine ⟨.inr hb.1, fun y hy => ?_⟩
    rcases hy with hy | hy
    · rcases ha.2 y hy with e | e
      · rw [e]; exact .inr h
      · exact .inr (bef_trans h e)
    · exact hb.2 y hy
  · rw [if_neg h]
    refine ⟨.inl ha.1, fun y hy => ?_⟩
    rcases hy with hy | hy
    · exact ha.2 y hy
    · have hab : a = b ∨ bef (f a, a) (f b, b) = true := by
        rcases bef_tot f a b with e | e | e
        · exact .inl e
        · exact .inr e
        · exact absurd e h
      rcases hb.2 y hy with e | e
      · rcases hab with g | g
        · left; rw [e, g]
        · right; rw [e]; exact g
      · rcases hab with g | g
        · right; rw [g]; exact e
        · exact .inr (bef_trans g e)

def dpLoop (k : Cs) (n first : Nat) (g : Nat → List Int) : Nat → List Int
  | 0 => [(first : Int)]
  | m + 1 => if bef (costL k n ((first : Int) :: g (first + 1 + m)), (first : Int) :: g (first + 1 + m)) (costL k n (dpLoop k n first g m), dpLoop k n first g m) = true
      then (first : Int) :: g (first + 1 + m) else dpLoop k n first g m
def dpF (k : Cs) (n : Nat) : Nat → Nat → List Int
  | 0, _ => []
  | f + 1, first => if first < n then dpLoop k n first (dpF k n f) (n - 1 - first) else []
def dp (k : Cs) (n first : Nat) : List Int := dpF k n (n - first) first
theorem dpLoop_congr (k : Cs) (n first : Nat) {g g' : Nat → List Int} (m : Nat) (h : ∀ j, first < j → j ≤ first + m → g j = g' j) : dpLoop k n first g m = dpLoop k n first g' m := by
  induction m with
  | zero => rfl
  | succ m ih =>
    rw [dpLoop, dpLoop, ih fun j h1 h2 => h j h1 (by omega), h (first + 1 + m) (by omega) (by omega)]
theorem dpF_fuel (k : Cs) (n : Nat) : ∀ (f f' first : Nat), n - first ≤ f → n - first ≤ f' → dpF k n f first = dpF k n f' first := by
  intro f
  induction f with
  | zero =>
    intro f' first h1 h2
    cases f' with
    | zero => rfl
    | succ f' => rw [dpF, dpF, if_neg (by omega)]
  | succ f ih =>
    intro f' first h1 h2
    cases f' with
    | zero => rw [dpF, dpF, if_neg (by omega)]
    | succ f' =>
      rw [dpF, dpF]
      by_cases h : first < n
      · rw [if_pos h, if_pos h]
        exact dpLoop_congr k n first _ fun j h3 h4 => ih f' j (by omega) (by omega)
      · rw [if_neg h, if_neg h]
theorem dp_end (k : Cs) {n first : Nat} (h : n ≤ first) : dp k n first = [] := by
  unfold dp
  rw [show n - first = 0 by omega]; rfl
theorem dp_loop (k : Cs) {n first : Nat} (h : first < n) : dp k n first = dpLoop k n first (dp k n) (n - 1 - first) := by
  obtain ⟨f, hf⟩ : ∃ f, n - first = f + 1 := ⟨n - first - 1, by omega⟩
  unfold dp
  rw [hf, dpF, if_pos h]
  exact dpLoop_congr k n first _ fun j h1 h2 => dpF_fuel k n f (n - j) j (by omega) (by omega)
def Firsts (n first : Nat) (ps : List Int) : Prop := Rising ps n ∧ beg n ps 0 = first
theorem firsts_cons {n first : Nat} {ps : List Int} (h : Firsts n first ps) (hf : first < n) : ∃ r, ps = (first : Int) :: r ∧ Firsts n (beg n r 0) r ∧ first < beg n r 0 ∧ beg n r 0 ≤ n := by
  obtain ⟨h1, h2⟩ := h
  cases ps with
  | nil => rw [beg_nil] at h2; omega
  | cons p r =>
    obtain ⟨t1, t2, t3⟩ := h1.tail
    rw [beg_cons0] at h2
    refine ⟨r, by rw [← h2]; congr 1; omega, ⟨t1, rfl⟩, by omega, beg_le t1 0⟩
theorem bef_cons (k : Cs) {n first : Nat} {r r' : List Int} (he : beg n r 0 = beg n r' 0) (h : bef (costL k n r, r) (costL k n r', r') = true) :
    bef (costL k n ((first : Int) :: r), (first : Int) :: r) (costL k n ((first : Int) :: r'), (first : Int) :: r') = true := by
  rw [costL_cons, costL_cons, he]
  unfold bef at *
  by_cases e : costL k n r = costL k n r'
  · simp only [if_pos e] at h
    simp only [e, if_true]
    unfold beforeB at *
    simp only [List.length_cons, Nat.add_right_cancel_iff, Nat.add_lt_add_iff_right]
    by_cases e2 : r.length = r'.length
    · rw [if_pos e2] at h ⊢
      rw [lexB, if_pos rfl]; exact h
    · rw [if_neg e2] at h ⊢; exact h
  · simp only [if_neg e] at h
    have := of_decide_eq_true h
    simp only []
    rw [if_neg (by omega)]
    exact decide_eq_true (by omega)
theorem dp_min (k : Cs) (n : Nat) : ∀ (d first : Nat), first + d = n → IsMin (Firsts n first) (costL k n) (dp k n first) := by
  intro d
  induction d using Nat.strongRecOn with
  | _ d ih =>
    intro first hfd
    rcases Nat.eq_zero_or_pos d with h0 | h0
    · rw [dp_end k (by omega)]
      refine ⟨⟨Rising.nil n, by rw [beg_nil]; omega⟩, fun y hy => .inl ?_⟩
      obtain ⟨h1, h2⟩ := hy
      cases y with
      | nil => rfl
      | cons p r =>
        have := h1.tail
        have := beg_le this.1 0
        rw [beg_cons0] at h2
        omega
    · rw [dp_loop k (by omega)]
      have loop : ∀ m, m ≤ n - 1 - first → IsMin (fun ps => Firsts n first ps ∧ (beg n ps.tail 0 = n ∨ beg n ps.tail 0 < first + 1 + m)) (costL k n) (dpLoop k n first (dp k n) m) := by
        intro m
        induction m with
        | zero =>
          intro _
          rw [dpLoop]
          refine ⟨⟨⟨(Rising.nil n).cons (by omega) (by rw [beg_nil]; omega), by rw [beg_cons0]; omega⟩, .inl (beg_nil n 0)⟩, fun y hy => .inl ?_⟩
          obtain ⟨hy1, hy2⟩ := hy
          obtain ⟨r, rfl, hr1, hr2, hr3⟩ := firsts_cons hy1 (by omega)
          simp only [List.tail_cons] at hy2
          have e : beg n r 0 = n := by omega
          cases r with
          | nil => rfl
          | cons p r =>
            have := hr1.1.tail
            have := beg_le this.1 0
            rw [beg_cons0] at e
            omega
        | succ m ihm =>
          intro hm
          have a := ihm (by omega)
          have b := ih (n - (first + 1 + m)) (by omega) (first + 1 + m) (by omega)
          have hcons : ∀ r, Firsts n (first + 1 + m) r → Firsts n first ((first : Int) :: r) := fun r hr =>
            ⟨hr.1.cons (by omega) (by rw [hr.2]; omega), by rw [beg_cons0]; omega⟩
          have b2 : IsMin (fun ps => Firsts n first ps ∧ beg n ps.tail 0 = first + 1 + m) (costL k n) ((first : Int) :: dp k n (first + 1 + m)) := by
            refine ⟨⟨hcons _ b.1, b.1.2⟩, fun y hy => ?_⟩
            obtain ⟨hy1, hy2⟩ := hy
            obtain ⟨r, rfl, hr1, hr2, hr3⟩ := firsts_cons hy1 (by omega)
            simp only [List.tail_cons] at hy2
            rw [hy2] at hr1
            rcases b.2 r hr1 with e | e
            · left; rw [e]
            · right; exact bef_cons k (by rw [b.1.2, hy2]) e
          refine (a.union b2).congr fun y => ?_
          constructor
          · rintro ⟨h1, h2⟩
            by_cases e : beg n y.tail 0 = first + 1 + m
            · exact .inr ⟨h1, e⟩
            · exact .inl ⟨h1, by omega⟩
          · rintro (⟨h1, h2⟩ | ⟨h1, h2⟩)
            · exact ⟨h1, by omega⟩
            · exact ⟨h1, .inr (by omega)⟩
      refine (loop _ (Nat.le_refl _)).congr fun y => ⟨fun hy => ⟨hy, ?_⟩, fun hy => hy.1⟩
      obtain ⟨r, rfl, hr1, hr2, hr3⟩ := firsts_cons hy (by omega)
      simp only [List.tail_cons]
      omega

def blF (k : Cs) (n : Nat) : Nat → List Int
  | 0 => dp k n 0
  | t + 1 => if bef (costL k n (dp k n (t + 1)), dp k n (t + 1)) (costL k n (blF k n t), blF k n t) = true then dp k n (t + 1) else blF k n t
theorem blF_min (k : Cs) (n t : Nat) (ht : t ≤ n) : IsMin (fun ps => Rising ps n ∧ beg n ps 0 ≤ t) (costL k n) (blF k n t) := by
  induction t with
  | zero => exact (dp_min k n n 0 (by omega)).congr fun y => ⟨fun h => ⟨h.1, by omega⟩, fun h => ⟨h.1, by have := h.2; omega⟩⟩
  | succ t ih =>
    refine ((ih (by omega)).union (dp_min k n (n - (t + 1)) (t + 1) (by omega))).congr fun y => ?_
    constructor
    · rintro ⟨h1, h2⟩
      by_cases e : beg n y 0 = t + 1
      · exact .inr ⟨h1, e⟩
      · exact .inl ⟨h1, by omega⟩
    · rintro (⟨h1, h2⟩ | ⟨h1, h2⟩)
      · exact ⟨h1, by omega⟩
      · exact ⟨h1, by omega⟩
theorem cov_iff {k : Cs} (hg : Good k) {ps : List Int} (hr : Rising ps k.need.length) {T : Nat} (hz : ∀ j, j < T → k.need.getD j 0 = 0) (hT : T = k.need.length ∨ (T < k.need.length ∧ k.need.getD T 0 ≠ 0)) :
    covers k.need ps = true ↔ beg k.need.length ps 0 ≤ T := by
  constructor
  · intro hc
    have hb := beg_le hr 0
    by_cases h : beg k.need.length ps 0 ≤ T
    · exact h
    · exfalso
      have := cov_zero hg hr hc T (by omega)
      omega
  · intro h
    refine decide_eq_true fun t ht hl => ?_
    have : t < beg k.need.length ps 0 := by
      cases ps with
      | nil => rw [beg_nil]; exact ht
      | cons p r =>
        rw [beg_cons0]
        have : (t : Int) < p := hl
        omega
    rw [hz t (by omega)]; omega
theorem bits_all : ∀ (n : Nat) (ps : List Int), Rising ps n → ∃ c, c < 2 ^ n ∧ ps = bitsL c n := by
  intro n
  induction n with
  | zero =>
    intro ps h
    cases ps with
    | nil => exact ⟨0, by simp, rfl⟩
    | cons p r => have := h.bd 0 (by simp); simp at this; omega
  | succ n ih =>
    intro ps h
    have low : ∀ (c x : Nat), x ≤ n → bitsL (c + 2 ^ n) x = bitsL c x := by
      intro c x hx
      induction x with
      | zero => rfl
      | succ x ihx =>
        have e : (c + 2 ^ n) / 2 ^ x % 2 = c / 2 ^ x % 2 := by
          have h1 : 2 ^ n = 2 ^ x * (2 * 2 ^ (n - x - 1)) := by
            rw [← Nat.pow_succ', ← Nat.pow_add]; congr 1; omega
          rw [h1, Nat.add_mul_div_left _ _ (Nat.two_pow_pos x), Nat.add_mul_mod_self_left]
        rw [bitsL, bitsL, e, ihx (by omega)]
    by_cases hl : 0 < ps.length ∧ ps.getD (ps.length - 1) 0 = n
    · have hd : ps = ps.dropLast ++ [(n : Int)] := by
        have hne : ps ≠ [] := by intro e; rw [e] at hl; simp at hl
        have := List.dropLast_concat_getLast hne
        rw [← this]
        congr 1
        · simp
        · congr 1
          have h2 := hl.2
          rw [List.getD_eq_getElem?_getD, List.getElem?_eq_getElem (by omega)] at h2
          rw [List.getLast_eq_getElem]
          simpa using h2
      have hlen : ps.dropLast.length = ps.length - 1 := List.length_dropLast
      have hget : ∀ i, i < ps.length - 1 → ps.dropLast.getD i 0 = ps.getD i 0 := fun i hi => by
        rw [List.getD_eq_getElem?_getD, List.getD_eq_getElem?_getD, List.getElem?_dropLast, if_pos hi]
      have hr : Rising ps.dropLast n := by
        refine ⟨fun i hi => ?_, fun i hi => ?_⟩
        · rw [hget i (by omega)]
          have h1 := h.bd i (by omega)
          have h2 := h.lt (i := i) (j := ps.length - 1) (by omega) (by omega)
          rw [hl.2] at h2
          omega
        · rw [hget i (by omega), hget (i + 1) (by omega)]
          exact h.up i (by omega)
      obtain ⟨c, hc, he⟩ := ih _ hr
      refine ⟨c + 2 ^ n, by rw [Nat.pow_succ]; omega, ?_⟩
      have hbit : (c + 2 ^ n) / 2 ^ n % 2 = 1 := by
        rw [Nat.add_div_right _ (Nat.two_pow_pos n), Nat.div_eq_of_lt hc]
      rw [bitsL, if_pos hbit, low c n (Nat.le_refl _), ← he]
      exact hd
    · have hr : Rising ps n := by
        refine ⟨fun i hi => ?_, h.up⟩
        have h1 := h.bd i hi
        refine ⟨h1.1, ?_⟩
        by_cases e : i = ps.length - 1
        · have : ps.getD i 0 ≠ n := fun e2 => hl ⟨by omega, by rw [← e]; exact e2⟩
          omega
        · have := h.lt (i := i) (j := ps.length - 1) (by omega) (by omega)
          have := (h.bd (ps.length - 1) (by omega)).2
          omega
      obtain ⟨c, hc, he⟩ := ih _ hr
      refine ⟨c, by rw [Nat.pow_succ]; omega, ?_⟩
      rw [bitsL, Nat.div_eq_of_lt hc, if_neg (by simp)]
      exact he
theorem bestC_min {k : Cs} (hg : Good k) (c : Nat) : ((bestC k c).2 < 0 ∧ ∀ c', c' < c → covers k.need (bitsL c' k.need.length) = false) ∨
    (IsMin (fun ps => ∃ c', c' < c ∧ ps = bitsL c' k.need.length ∧ covers k.need ps = true) (costL k k.need.length) (bestC k c).1 ∧ (bestC k c).2 = costL k k.need.length (bestC k c).1) := by
  induction c with
  | zero => exact .inl ⟨by simp [bestC], fun c' h => by omega⟩
  | succ c ih =>
    obtain ⟨ps, hps⟩ : ∃ ps, ps = bitsL c k.need.length := ⟨_, rfl⟩
    have hr : Rising ps k.need.length := by rw [hps]; exact bitsL_rising _ _
    rw [bestC, ← hps, stepB]
    cases hcv : covers k.need ps with
    | false =>
      rw [if_neg (by simp)]
      rcases ih with ⟨h1, h2⟩ | ⟨h1, h2⟩
      · refine .inl ⟨h1, fun c' h => ?_⟩
        by_cases e : c' = c
        · rw [e, ← hps]; exact hcv
        · exact h2 c' (by omega)
      · refine .inr ⟨h1.congr fun y => ⟨?_, ?_⟩, h2⟩
        · rintro ⟨c', g1, g2, g3⟩
          by_cases e : c' = c
          · rw [g2, e, ← hps, hcv] at g3; cases g3
          · exact ⟨c', by omega, g2, g3⟩
        · rintro ⟨c', g1, g2, g3⟩
          exact ⟨c', by omega, g2, g3⟩
    | true =>
      rw [if_pos rfl, fromL_cost hg hr hcv]
      have hnn := (costL_in hg hr).1
      have one : IsMin (fun y => y = ps) (costL k k.need.length) ps := ⟨rfl, fun y hy => .inl hy⟩
      rcases ih with ⟨h1, h2⟩ | ⟨h1, h2⟩
      · rw [if_pos (.inl h1)]
        refine .inr ⟨one.congr fun y => ⟨?_, ?_⟩, rfl⟩
        · rintro ⟨c', g1, g2, g3⟩
          by_cases e : c' = c
          · rw [g2, e, ← hps]
          · rw [g2, h2 c' (by omega)] at g3; cases g3
        · rintro rfl
          exact ⟨c, by omega, hps, hcv⟩
      · have hb0 : ¬ ((bestC k c).2 < 0) := by
          obtain ⟨⟨c', g1, g2, g3⟩, _⟩ := h1
          rw [h2]
          have := (costL_in hg (bestC_rising k c)).1
          omega
        have hu := h1.union one
        have hset : ∀ y, (∃ c', c' < c + 1 ∧ y = bitsL c' k.need.length ∧ covers k.need y = true) ↔ ((∃ c', c' < c ∧ y = bitsL c' k.need.length ∧ covers k.need y = true) ∨ y = ps) := by
          intro y
          constructor
          · rintro ⟨c', g1, g2, g3⟩
            by_cases e : c' = c
            · right; rw [g2, e, ← hps]
            · exact .inl ⟨c', by omega, g2, g3⟩
          · rintro (⟨c', g1, g2, g3⟩ | rfl)
            · exact ⟨c', by omega, g2, g3⟩
            · exact ⟨c, by omega, hps, hcv⟩
        have hcond : ((bestC k c).2 < 0 ∨ costL k k.need.length ps < (bestC k c).2 ∨ (costL k k.need.length ps = (bestC k c).2 ∧ beforeB ps (bestC k c).1 = true)) ↔
            bef (costL k k.need.length ps, ps) (costL k k.need.length (bestC k c).1, (bestC k c).1) = true := by
          rw [← h2]
          unfold bef
          by_cases e : costL k k.need.length ps = (bestC k c).2
          · rw [if_pos e]
            constructor
            · rintro (g | g | g)
              · exact absurd g hb0
              · omega
              · exact g.2
            · intro g; exact .inr (.inr ⟨e, g⟩)
          · rw [if_neg e]
            constructor
            · rintro (g | g | g)
              · exact absurd g hb0
              · exact decide_eq_true g
              · exact absurd g.1 e
            · intro g; exact .inr (.inl (of_decide_eq_true g))
        right
        by_cases hbf : bef (costL k k.need.length ps, ps) (costL k k.need.length (bestC k c).1, (bestC k c).1) = true
        · rw [if_pos hbf] at hu
          rw [if_pos (hcond.2 hbf)]
          exact ⟨hu.congr hset, rfl⟩
        · rw [if_neg hbf] at hu
          rw [if_neg (fun g => hbf (hcond.1 g))]
          exact ⟨hu.congr hset, h2⟩
theorem bestL_dp {k : Cs} (hg : Good k) {T : Nat} (hTn : T ≤ k.need.length) (hz : ∀ j, j < T → k.need.getD j 0 = 0) (hT : T = k.need.length ∨ (T < k.need.length ∧ k.need.getD T 0 ≠ 0)) :
    bestL k = blF k k.need.length T ∧ bestCost k = costL k k.need.length (blF k k.need.length T) := by
  have hbl := (blF_min k k.need.length T hTn).congr (T := fun ps => ∃ c', c' < 2 ^ k.need.length ∧ ps = bitsL c' k.need.length ∧ covers k.need ps = true) fun y => by
    constructor
    · rintro ⟨c', g1, g2, g3⟩
      have hr : Rising y k.need.length := by rw [g2]; exact bitsL_rising _ _
      exact ⟨hr, (cov_iff hg hr hz hT).1 g3⟩
    · rintro ⟨g1, g2⟩
      obtain ⟨c', h1, h2⟩ := bits_all _ y g1
      exact ⟨c', h1, h2, (cov_iff hg g1 hz hT).2 g2⟩
  have e : bestL k = blF k k.need.length T := by
    rcases bestC_min hg (2 ^ k.need.length) with ⟨_, h2⟩ | ⟨h1, _⟩
    · obtain ⟨⟨c', g1, g2, g3⟩, _⟩ := hbl
      rw [g2, h2 c' g1] at g3
      cases g3
    · exact h1.uniq hbl
  refine ⟨e, ?_⟩
  unfold bestCost
  have hcv : covers k.need (bestL k) = true := by
    rw [e]
    obtain ⟨⟨c', g1, g2, g3⟩, _⟩ := hbl
    exact g3
  rw [fromL_cost hg (show Rising (bestL k) k.need.length from bestC_rising k _) hcv, e]
end Go.Proofs.Ytibkaclkaigflaa
end
section
namespace Go.Proofs.Ytibkaclkaigflaa
set_option linter.unusedVariables false
set_option linter.unusedSimpArgs false
def needQ (k : Cs) : Nat → Nat → Nat
  | 0, t => t
  | f + 1, t => if k.need.getD t 0 = 0 then needQ k f (t + 1) else t
def needN (k : Cs) (t : Nat) : Nat := needQ k (k.need.length - t) t
theorem needQ_le (k : Cs) (f : Nat) : ∀ t, needQ k f t ≤ t + f := by
  induction f with
  | zero => intro t; exact Nat.le_refl _
  | succ f ih =>
    intro t
    rw [needQ]
    split
    · have := ih (t + 1); omega
    · omega
theorem needN_le {k : Cs} {t : Nat} (h : t ≤ k.need.length) : needN k t ≤ k.need.length := by
  have := needQ_le k (k.need.length - t) t
  unfold needN; omega
end Go.Proofs.Ytibkaclkaigflaa
end
section
namespace Go.Proofs.Ytibkaclkaigflaa
set_option linter.unusedVariables false
set_option linter.unusedSimpArgs false
theorem bef_le {a b : Int × List Int} (h : bef a b = true) : a.1 ≤ b.1 := by
  unfold bef at h
  by_cases e : a.1 = b.1
  · omega
  · rw [if_neg e] at h; have := of_decide_eq_true h; omega
theorem bef_ge {a b : Int × List Int} (h : ¬ bef a b = true) : b.1 ≤ a.1 := by
  unfold bef at h
  by_cases e : a.1 = b.1
  · omega
  · rw [if_neg e] at h
    by_cases g : a.1 < b.1
    · exact absurd (decide_eq_true g) h
    · omega
theorem bwd_dp {k : Cs} (n m : Nat) (hm : m ≤ n) : ∀ x, x ≤ m → (bwdF k n m).getD x 0 = costL k n (dp k n (n - m + x)) := by
  induction m with
  | zero =>
    intro x hx
    obtain rfl : x = 0 := by omega
    rw [dp_end k (by omega)]; rfl
  | succ m ih =>
    intro x hx
    have ih := ih (by omega)
    rw [bwdF]
    cases x with
    | succ x =>
      rw [List.getD_cons_succ, ih x (by omega)]
      congr 2; omega
    | zero =>
      rw [List.getD_cons_zero, show n - (m + 1) + 0 = n - (m + 1) from rfl, dp_loop k (by omega), show n - 1 - (n - (m + 1)) = m by omega]
      have : ∀ q, q ≤ m → bmin k n (n - (m + 1)) (bwdF k n m) q = costL k n (dpLoop k n (n - (m + 1)) (dp k n) q) := by
        intro q
        induction q with
        | zero => intro _; rw [bmin, dpLoop, costL_cons, beg_nil, costL_nil]; simp
        | succ q ihq =>
          intro hq
          have e : n - m + q = n - (m + 1) + 1 + q := by omega
          have hd : beg n (dp k n (n - (m + 1) + 1 + q)) 0 = n - (m + 1) + 1 + q := ((dp_min k n (n - (n - (m + 1) + 1 + q)) _ (by omega)).1).2
          rw [bmin, ihq (by omega), ih q (by omega), e, dpLoop]
          have hc : costL k n (((n - (m + 1) : Nat) : Int) :: dp k n (n - (m + 1) + 1 + q)) = spanF k (n - (m + 1)) (n - (m + 1) + 1 + q) + costL k n (dp k n (n - (m + 1) + 1 + q)) := by
            rw [costL_cons, hd]; simp
          split
          · rename_i hb
            have := bef_le hb
            simp only [] at this
            rw [hc] at this ⊢
            omega
          · rename_i hb
            have := bef_ge hb
            simp only [] at this
            rw [hc] at this
            omega
      exact this m (Nat.le_refl _)
theorem needQ_spec (k : Cs) : ∀ (f t : Nat), (∀ j, t ≤ j → j < needQ k f t → k.need.getD j 0 = 0) ∧ (needQ k f t = t + f ∨ k.need.getD (needQ k f t) 0 ≠ 0) := by
  intro f
  induction f with
  | zero => intro t; exact ⟨fun j h1 h2 => by rw [needQ] at h2; omega, .inl rfl⟩
  | succ f ih =>
    intro t
    rw [needQ]
    by_cases h : k.need.getD t 0 = 0
    · rw [if_pos h]
      obtain ⟨h1, h2⟩ := ih (t + 1)
      refine ⟨fun j g1 g2 => ?_, ?_⟩
      · by_cases e : j = t
        · rw [e]; exact h
        · exact h1 j (by omega) g2
      · rcases h2 with h2 | h2
        · left; omega
        · exact .inr h2
    · rw [if_neg h]
      exact ⟨fun j g1 g2 => by omega, .inr h⟩
theorem firstN (k : Cs) : (∀ j, j < needN k 0 → k.need.getD j 0 = 0) ∧ (needN k 0 = k.need.length ∨ (needN k 0 < k.need.length ∧ k.need.getD (needN k 0) 0 ≠ 0)) := by
  obtain ⟨h1, h2⟩ := needQ_spec k (k.need.length - 0) 0
  have hle := needN_le (k := k) (t := 0) (by omega)
  refine ⟨fun j hj => h1 j (by omega) hj, ?_⟩
  rcases h2 with h2 | h2
  · left; unfold needN; omega
  · by_cases e : needN k 0 = k.need.length
    · exact .inl e
    · exact .inr ⟨by omega, h2⟩
theorem sumR_none {k : Cs} {f : Nat} (h : ∀ j, j < f → k.need.getD j 0 = 0) : ∀ t, t ≤ f → sumR k.need 0 t = 0 := by
  intro t
  induction t with
  | zero => intro _; exact sumR_self _ _
  | succ t ih => intro ht; rw [sumR_s, ih (by omega), h t (by omega)]; rfl
theorem bwd_best {k : Cs} (hg : Good k) : (bwdL k).getD 0 0 = bestCost k := by
  obtain ⟨hz, hT⟩ := firstN k
  have hle := needN_le (k := k) (t := 0) (by omega)
  obtain ⟨T, hTe⟩ : ∃ T, T = needN k 0 := ⟨_, rfl⟩
  rw [← hTe] at hz hT hle
  have hb := (bestL_dp hg hle hz hT).2
  have hd := bwd_dp (k := k) k.need.length k.need.length (Nat.le_refl _) 0 (Nat.zero_le _)
  rw [Nat.sub_self, Nat.add_zero] at hd
  unfold bwdL
  rw [hd, hb]
  have m0 := dp_min k k.need.length k.need.length 0 (by omega)
  have mT := blF_min k k.need.length T hle
  have a : costL k k.need.length (blF k k.need.length T) ≤ costL k k.need.length (dp k k.need.length 0) := by
    rcases mT.2 _ ⟨m0.1.1, by rw [m0.1.2]; omega⟩ with h | h
    · rw [h]; exact Int.le_refl _
    · exact bef_le h
  have b : costL k k.need.length (dp k k.need.length 0) ≤ costL k k.need.length (blF k k.need.length T) := by
    obtain ⟨h1, h2⟩ := mT.1
    by_cases e : beg k.need.length (blF k k.need.length T) 0 = 0
    · rcases m0.2 _ ⟨h1, e⟩ with h | h
      · rw [h]; exact Int.le_refl _
      · exact bef_le h
    · have hc : costL k k.need.length ((0 : Int) :: blF k k.need.length T) = costL k k.need.length (blF k k.need.length T) := by
        rw [costL_cons, show ((0 : Int)).toNat = 0 from rfl, spanF_zero k (sumR_none hz _ h2)]; simp
      rw [← hc]
      rcases m0.2 ((0 : Int) :: blF k k.need.length T) ⟨h1.cons (by omega) (show ((0 : Int)).toNat < _ by have : ((0 : Int)).toNat = 0 := rfl; omega), by rw [beg_cons0]; rfl⟩ with h | h
      · rw [h]; exact Int.le_refl _
      · exact bef_le h
  omega
theorem fromL_plan {k : Cs} (hg : Good k) {ps : List Int} (hr : Rising ps k.need.length) (hc : covers k.need ps = true) :
    (∀ t, t < k.need.length → 0 ≤ stk (fromL k.need ps) k.need t) ∧ sumTo (fromL k.need ps) k.need.length = sumTo k.need k.need.length := by
  obtain ⟨plan, hplan⟩ : ∃ plan, plan = fromL k.need ps := ⟨_, rfl⟩
  have hno : ∀ t : Nat, (∀ j, j < ps.length → ps.getD j 0 ≠ (t : Int)) → plan.getD t 0 = 0 := fun t h => by rw [hplan]; exact fromI_no hr _ (Nat.le_refl _) h
  have hat : ∀ j, j < ps.length → plan.getD (beg k.need.length ps j) 0 = sumR k.need (beg k.need.length ps j) (beg k.need.length ps (j + 1)) := fun j h => by rw [hplan]; exact fromI_at hr _ (Nat.le_refl _) h
  have hbj : ∀ j, j < ps.length → (beg k.need.length ps j : Int) = ps.getD j 0 := fun j hj => by
    have := hr.bd j hj
    unfold beg; rw [if_pos hj]; omega
  have start : ∀ t, t ≤ beg k.need.length ps 0 → sumTo plan t = sumTo k.need t := by
    intro t
    induction t with
    | zero => intro _; rfl
    | succ t ih =>
      intro ht
      have hz := cov_zero hg hr hc t (by omega)
      have hp : plan.getD t 0 = 0 := hno t fun j hj he => by
        have h0 : 0 < ps.length := by omega
        have := hbj 0 h0
        rcases Nat.eq_zero_or_pos j with e | e
        · subst e; omega
        · have := hr.lt (i := 0) (j := j) e hj; omega
      rw [sumTo_g, sumTo_g, ih (by omega), hp, hz]
  have gap : ∀ i, i < ps.length → ∀ t, beg k.need.length ps i < t → t < beg k.need.length ps (i + 1) → plan.getD t 0 = 0 := fun i hi t h1 h2 => hno t fun j hj he => by
    have h3 := hbj i hi
    have h4 := hbj j hj
    by_cases hlt : j ≤ i
    · rcases Nat.lt_or_eq_of_le hlt with h | h
      · have := hr.lt h hi; omega
      · subst h; omega
    · have h5 := hbj (i + 1) (by omega)
      rcases Nat.lt_or_eq_of_le (show i + 1 ≤ j by omega) with h | h
      · have := hr.lt h hj; omega
      · subst h; omega
  have main : ∀ i, i ≤ ps.length → sumTo plan (beg k.need.length ps i) = sumTo k.need (beg k.need.length ps i) ∧ ∀ t, t < beg k.need.length ps i → 0 ≤ stk plan k.need t := by
    intro i
    induction i with
    | zero =>
      intro _
      refine ⟨start _ (Nat.le_refl _), fun t ht => ?_⟩
      unfold stk
      rw [start (t + 1) ht]; omega
    | succ i ih =>
      intro hi
      obtain ⟨i1, i2⟩ := ih (by omega)
      have hlt := beg_lt hr (i := i) (by omega)
      refine ⟨(seg_span hg hlt i1 (hat i (by omega)) (gap i (by omega))).1, fun t ht => ?_⟩
      by_cases h : t < beg k.need.length ps i
      · exact i2 t h
      · obtain ⟨s1, _⟩ := seg_cost hg hlt i1 (hat i (by omega)) (gap i (by omega)) (t - beg k.need.length ps i) (by omega)
        rw [show beg k.need.length ps i + (t - beg k.need.length ps i) + 1 = t + 1 by omega] at s1
        have := sumR_nn (m := 20) (by omega) hg.need (i := t + 1) (j := beg k.need.length ps (i + 1)) (by omega)
        unfold stk
        unfold sumR at this
        omega
  have hl : beg k.need.length ps ps.length = k.need.length := by unfold beg; rw [if_neg (by omega)]
  have he := main ps.length (Nat.le_refl _)
  rw [hl] at he
  rw [← hplan]
  exact ⟨he.2, he.1⟩
end Go.Proofs.Ytibkaclkaigflaa
end
section
namespace Go.Proofs.Ytibkaclkaigflaa.Ab
open Go.Proofs.Ytibkaclkaigflaa
set_option linter.unusedVariables false
set_option linter.unusedSimpArgs false
theorem fwd_at (k : Cs) {n j : Nat} (hj : j + 1 ≤ n) : (fwdC k n).getD (j + 1) 0 = valF k (fwdC k j) (j + 1) (fwdB k j) := by
  rw [fwdC_keep k (Nat.le_refl (j + 1)) hj, fwdC, getD_app, fwdC_len, if_neg (by omega), if_pos rfl]
  rfl
theorem fwd_le (k : Cs) {n i j : Nat} (hij : i < j) (hj : j ≤ n) : (fwdC k n).getD j 0 ≤ (fwdC k n).getD i 0 + spanF k i j := by
  obtain ⟨j, rfl⟩ : ∃ q, j = q + 1 := ⟨j - 1, by omega⟩
  rw [fwd_at k hj]
  have := lastB_le (valF k (fwdC k j) (j + 1)) (j + 1) i hij
  rw [fwdC_keep k (show i ≤ j by omega) (show j ≤ n by omega)]
  exact this
theorem fwd_eq (k : Cs) {n j : Nat} (h0 : 0 < j) (hj : j ≤ n) : ∃ i, i < j ∧ (fwdC k n).getD j 0 = (fwdC k n).getD i 0 + spanF k i j := by
  obtain ⟨j, rfl⟩ : ∃ q, j = q + 1 := ⟨j - 1, by omega⟩
  refine ⟨fwdB k j, by have := fwdB_le k j; omega, ?_⟩
  rw [fwd_at k hj, fwdC_keep k (fwdB_le k j) (show j ≤ n by omega)]
  rfl
theorem bmin_le (k : Cs) (n i : Nat) (tail : List Int) (y : Nat) : bmin k n i tail y ≤ spanF k i n ∧ ∀ x, x < y → bmin k n i tail y ≤ spanF k i (i + 1 + x) + tail.getD x 0 := by
  induction y with
  | zero => exact ⟨Int.le_refl _, fun x hx => absurd hx (by omega)⟩
  | succ y ih =>
    rw [bmin]
    refine ⟨by have := ih.1; omega, fun x hx => ?_⟩
    by_cases e : x = y
    · rw [e]; omega
    · have := ih.2 x (by omega); omega
theorem bmin_mem (k : Cs) (n i : Nat) (tail : List Int) (y : Nat) : bmin k n i tail y = spanF k i n ∨ ∃ x, x < y ∧ bmin k n i tail y = spanF k i (i + 1 + x) + tail.getD x 0 := by
  induction y with
  | zero => exact .inl rfl
  | succ y ih =>
    rw [bmin]
    by_cases h : bmin k n i tail y ≤ spanF k i (i + 1 + y) + tail.getD y 0
    · rw [show min (bmin k n i tail y) (spanF k i (i + 1 + y) + tail.getD y 0) = bmin k n i tail y by omega]
      rcases ih with h1 | ⟨x, h1, h2⟩
      · exact .inl h1
      · exact .inr ⟨x, by omega, h2⟩
    · exact .inr ⟨y, by omega, by omega⟩
def bwdD (k : Cs) (y : Nat) : Int := costL k k.need.length (dp k k.need.length y)
theorem bwd_D (k : Cs) {y : Nat} (hy : y ≤ k.need.length) : (bwdL k).getD y 0 = bwdD k y := by
  have := bwd_dp (k := k) k.need.length k.need.length (Nat.le_refl _) y hy
  rw [Nat.sub_self, Nat.zero_add] at this
  exact this
theorem bwd_F (k : Cs) {m x : Nat} (hm : m ≤ k.need.length) (hx : x ≤ m) : (bwdF k k.need.length m).getD x 0 = bwdD k (k.need.length - m + x) := bwd_dp _ m hm x hx
theorem bwdD_n (k : Cs) : bwdD k k.need.length = 0 := by
  have := bwd_F k (m := 0) (x := 0) (by omega) (by omega)
  rw [Nat.sub_zero, Nat.add_zero] at this
  rw [← this]
  rfl
theorem bwdD_s (k : Cs) {i : Nat} (hi : i < k.need.length) : bwdD k i = bmin k k.need.length i (bwdF k k.need.length (k.need.length - i - 1)) (k.need.length - i - 1) := by
  have := bwd_F k (m := k.need.length - i - 1 + 1) (x := 0) (by omega) (by omega)
  rw [bwdF, show k.need.length - (k.need.length - i - 1 + 1) = i by omega, Nat.add_zero] at this
  rw [← this]
  rfl
theorem bwd_le (k : Cs) {i j : Nat} (hij : i < j) (hj : j ≤ k.need.length) : bwdD k i ≤ spanF k i j + bwdD k j := by
  rw [bwdD_s k (by omega)]
  have h := bmin_le k k.need.length i (bwdF k k.need.length (k.need.length - i - 1)) (k.need.length - i - 1)
  by_cases e : j = k.need.length
  · rw [e, bwdD_n]; have := h.1; omega
  · have h2 := h.2 (j - i - 1) (by omega)
    rw [bwd_F k (by omega) (by omega), show i + 1 + (j - i - 1) = j by omega, show k.need.length - (k.need.length - i - 1) + (j - i - 1) = j by omega] at h2
    exact h2
theorem bwd_eq (k : Cs) {i : Nat} (hi : i < k.need.length) : ∃ j, i < j ∧ j ≤ k.need.length ∧ bwdD k i = spanF k i j + bwdD k j := by
  have h := bmin_mem k k.need.length i (bwdF k k.need.length (k.need.length - i - 1)) (k.need.length - i - 1)
  rw [← bwdD_s k hi] at h
  rcases h with h | ⟨x, hx, h⟩
  · exact ⟨k.need.length, hi, Nat.le_refl _, by rw [bwdD_n]; omega⟩
  · refine ⟨i + 1 + x, by omega, by omega, ?_⟩
    rw [bwd_F k (by omega) (by omega), show k.need.length - (k.need.length - i - 1) + x = i + 1 + x by omega] at h
    exact h
theorem both_ge (k : Cs) : ∀ j, j ≤ k.need.length → bwdD k 0 ≤ (fwdC k k.need.length).getD j 0 + bwdD k j := by
  intro j
  induction j using Nat.strongRecOn with
  | ind j ih =>
    intro hj
    by_cases h0 : j = 0
    · subst h0; rw [fwdC_at0]; omega
    · obtain ⟨i, hi, e⟩ := fwd_eq k (Nat.pos_of_ne_zero h0) hj
      have h1 := ih i hi (by omega)
      have h2 := bwd_le k hi hj
      omega
theorem fwd_ge (k : Cs) : ∀ d j, j + d = k.need.length → (fwdC k k.need.length).getD k.need.length 0 ≤ (fwdC k k.need.length).getD j 0 + bwdD k j := by
  intro d
  induction d using Nat.strongRecOn with
  | ind d ih =>
    intro j hj
    by_cases h0 : j = k.need.length
    · rw [h0, bwdD_n]; omega
    · obtain ⟨i, hi, hi2, e⟩ := bwd_eq k (i := j) (by omega)
      have h1 := ih (k.need.length - i) (by omega) i (by omega)
      have h2 := fwd_le k hi hi2
      omega
theorem fwd_tot (k : Cs) : (fwdC k k.need.length).getD k.need.length 0 = bwdD k 0 := by
  have h1 := both_ge k k.need.length (Nat.le_refl _)
  have h2 := fwd_ge k k.need.length 0 (by omega)
  rw [bwdD_n] at h1
  rw [fwdC_at0] at h2
  omega
theorem best_D {k : Cs} (hg : Good k) : bestCost k = bwdD k 0 := by rw [← bwd_best hg, bwd_D k (by omega)]
end Go.Proofs.Ytibkaclkaigflaa.Ab
end
section
namespace Go.Proofs.Ytibkaclkaigflaa.Ab
open Go Go.RowKit
set_option linter.unusedVariables false
set_option linter.unusedSimpArgs false
theorem app_cons {M : Mem} {l : List Int} {x : Int} {v : Value} {id : Nat} (hi : IntsA M v l) (hb : l.length ≤ 1000) (hid : id = M.length) :
    appP (M ++ [⟨.own, 3, [.int .i64 x]⟩]) 3 1 8 (.slice (some ⟨id, 0, none⟩) 1 1) v = some (.slice (some ⟨id + 1, 0, none⟩) (1 + l.length) 1, M ++ [deadB] ++ [⟨.own, 3, (x :: l).map (Value.int .i64)⟩]) := by
  subst hid
  have h := app_all (l0 := [x]) (OwnR.at_end M [x]) (hi.ext [⟨.own, 3, [x].map (Value.int .i64)⟩]) (by simp; omega)
  simpa using h
theorem app_genH {M : Mem} {l : List Int} {x : Int} {id id2 n : Nat} (h : OwnR M id l) (hb : l.length ≤ 1048576) (h2 : id2 = M.length) (hn : n = l.length) :
    appP (M ++ [⟨.own, 3, [.int .i64 x]⟩]) 3 1 8 (.slice (some ⟨id, 0, none⟩) n 1) (.slice (some ⟨id2, 0, none⟩) 1 1) =
      some (.slice (some ⟨id2 + 1, 0, none⟩) (n + 1) 1, M.set id deadB ++ [⟨.own, 3, [.int .i64 x]⟩] ++ [⟨.own, 3, (l ++ [x]).map (Value.int .i64)⟩]) := by
  subst h2 hn
  exact app_gen h hb

end Go.Proofs.Ytibkaclkaigflaa.Ab
end
section
namespace Go.Proofs.Ytibkaclkaigflaa.Ab
open Go Go.RowKit
set_option linter.unusedVariables false
set_option linter.unusedSimpArgs false
theorem parts_sum (k : Cs) (plan : List Int) : costA k plan = partA cSet k plan + partA cUnit k plan + partA cHold k plan := by
  cases hg : two k plan with
  | false => rw [partA_no _ hg, partA_no _ hg, partA_no _ hg, costA_no hg]; rfl
  | true => rw [partA_yes _ hg, partA_yes _ hg, partA_yes _ hg, costA_yes hg, costOf_def]
theorem parts_bound (k : Cs) (plan : List Int) : (0 ≤ partA cSet k plan ∧ partA cSet k plan ≤ 1000) ∧ (0 ≤ partA cUnit k plan ∧ partA cUnit k plan ≤ 20000) ∧ (-20000 ≤ partA cHold k plan ∧ partA cHold k plan ≤ 200000) := by
  cases hg : two k plan with
  | false => rw [partA_no _ hg, partA_no _ hg, partA_no _ hg]; omega
  | true =>
    obtain ⟨b1, b2, b3⟩ := two_bounds hg
    have h8 := b1.n8
    rw [partA_yes _ hg, partA_yes _ hg, partA_yes _ hg]
    exact cost_bounds b1 b3 plan.length (by omega)
theorem planCost_gen (m : Mem) (v u : Value) (k : Cs) (a b c : Int) (ok : Bool) (h : CaseA m v k)
    (hc : ∀ m' v' u', CaseA m' v' k → u' = u → (∃ x, m' = roM m ++ [x]) → RC Try.prog 28 [v', u'] m' (AnsV (.tuple #[.int .i64 a, .int .i64 b, .int .i64 c, .bool ok])))
    (ha : 0 ≤ a ∧ a ≤ 1000) (hb : 0 ≤ b ∧ b ≤ 20000) (hd : -20000 ≤ c ∧ c ≤ 200000) :
    RC Try.prog 14 [v, u] m (AnsV (.tuple #[.int .i64 (a + b + c), .bool ok])) := by
  refine rc_of_run mixed ok_impl_PlanCost (by simp) (go_start _ _ _ ?_)
  obtain ⟨v1, v2, v3, v4, rfl, h1, h2, h3, h4⟩ := h.ro.ok
  simp (config := {implicitDefEqProofs := false, maxDischargeDepth := 20}) (disch := first | omega | (simp only [lenE]; done) | (simp only [lenE]; omega) | rfl | (simp only [lenE, markR_len]; done) | (simp only [lenE, markR_len]; omega)) only [runE, mapE, listE, initT_5, initT_6, initT_7, initT_8, resV, oneV, binA, unA, reduceCtorEq, Nat.reduceEqDiff, Nat.reduceAdd, Nat.reduceLT, Nat.reduceLeDiff, Nat.reduceMul, Nat.reduceSub, ↓reduceIte, decide_true, decide_false, Bool.true_eq_false, Bool.false_eq_true, Bool.not_true, Bool.not_false, if_true, if_false, and_true, true_and, memE, celE, w64, Nat.zero_add, Nat.add_zero, Nat.mul_one, putL, and_self, ldn, c_impl_PlanCost, r_impl_PlanCost]
  refine callH_rc (hc _ _ u ⟨_, _, _, _, rfl, h1.ext _, h2.ext _, h3.ext _, h4.ext _⟩ rfl ⟨_, rfl⟩) ?_
  rintro r new ⟨rfl, nr1⟩
  simp (config := {implicitDefEqProofs := false, maxDischargeDepth := 20}) (disch := first | omega | (simp only [lenE]; done) | (simp only [lenE]; omega) | rfl | (simp only [lenE, markR_len]; done) | (simp only [lenE, markR_len]; omega)) only [runE, mapE, listE, initT_5, initT_6, initT_7, initT_8, resV, oneV, binA, unA, reduceCtorEq, Nat.reduceEqDiff, Nat.reduceAdd, Nat.reduceLT, Nat.reduceLeDiff, Nat.reduceMul, Nat.reduceSub, ↓reduceIte, decide_true, decide_false, Bool.true_eq_false, Bool.false_eq_true, Bool.not_true, Bool.not_false, if_true, if_false, and_true, true_and, memE, celE, w64, Nat.zero_add, Nat.add_zero, Nat.mul_one, putL, and_self, ldn, ext_4_0, ext_4_1, ext_4_2, ext_4_3]
  exact ext_ansV (((Ext.refl m).one _ _).app nr1) rfl
theorem implPlanCost_rc (m : Mem) (v u : Value) (k : Cs) (plan : List Int) (h : CaseA m v k) (h' : IntsA m u plan) :
    RC Try.prog 14 [v, u] m (AnsV (.tuple #[.int .i64 (costA k plan), .bool (two k plan)])) := by
  obtain ⟨ha, hb, hd⟩ := parts_bound k plan
  rw [parts_sum]
  exact planCost_gen m v u k _ _ _ _ h (fun m' v' u' hv hu hm => by
    obtain ⟨x, rfl⟩ := hm
    subst hu
    exact implCostParts_rc _ _ _ k plan hv (h'.ro.ext _)) ha hb hd
end Go.Proofs.Ytibkaclkaigflaa.Ab
end
section
namespace Go.Proofs.Ytibkaclkaigflaa.Ab
open Go Go.RowKit
set_option linter.unusedVariables false
set_option linter.unusedSimpArgs false
theorem l3Rate_rc (m : Mem) (v : Value) (k : Cs) (i t : Nat) (h : CaseA m v k) (hg : Good k) (hi : i < k.need.length) (hit : i ≤ t) (ht : t ≤ k.need.length) :
    RC Try.prog 48 [v, .int .i64 i, .int .i64 t] m (AnsV (.int .i64 (rateF k i t))) := by
  refine rc_of_run mixed ok_spec_l3Rate (by simp) (go_start _ _ _ ?_)
  obtain ⟨v1, v2, v3, v4, rfl, h1, h2, h3, h4⟩ := h.ro.ok
  have h8 := hg.n8
  have g1 := hg.lu
  have g2 := hg.lh
  simp (config := {implicitDefEqProofs := false, maxDischargeDepth := 20}) (disch := first | omega | (simp only [lenE]; done) | (simp only [lenE]; omega) | rfl | (simp only [lenE, markR_len]; done) | (simp only [lenE, markR_len]; omega)) only [runE, mapE, listE, initT_5, initT_6, initT_7, initT_8, resV, oneV, binA, unA, reduceCtorEq, Nat.reduceEqDiff, Nat.reduceAdd, Nat.reduceLT, Nat.reduceLeDiff, Nat.reduceMul, Nat.reduceSub, ↓reduceIte, decide_true, decide_false, Bool.true_eq_false, Bool.false_eq_true, Bool.not_true, Bool.not_false, if_true, if_false, and_true, true_and, memE, celE, w64, Nat.zero_add, Nat.add_zero, Nat.mul_one, putL, and_self, ldn, c_spec_l3Rate, r_spec_l3Rate, h3.at_ i (by omega), (h3.ext _).ld i (by omega)]
  refine loop_inv mixed (fun s => ∃ x : Nat, i ≤ x ∧ x ≤ t ∧ s.t 2 = .int .i64 t ∧ s.t 3 = .pointer (some ⟨m.length, 0, none⟩) ∧ s.t 7 = .int .i64 (rateF k i x) ∧ s.t 8 = .int .i64 x ∧ s.m = roM m ++ [⟨.own, 26, [v1, v2, v3, v4]⟩]) (fun s => t - (intOf (s.t 8)).toNat)
    ⟨i, Nat.le_refl _, hit, rfl, rfl, by rw [rateF_self]; rfl, rfl, rfl⟩ ?_
  rintro s ⟨x, hix, hxt, t2, t3, t7, t8, tm⟩
  by_cases hlt : x < t
  · have hlt' : (x : Int) < t := by omega
    have b1 := rateF_in hg hix (by omega)
    have b2 := getD_bound (m := 9) (by omega) hg.hold x
    simp (config := {implicitDefEqProofs := false, maxDischargeDepth := 20}) (disch := first | omega | (simp only [lenE]; done) | (simp only [lenE]; omega) | rfl | (simp only [lenE, markR_len]; done) | (simp only [lenE, markR_len]; omega)) only [runE, mapE, listE, initT_5, initT_6, initT_7, initT_8, resV, oneV, binA, unA, reduceCtorEq, Nat.reduceEqDiff, Nat.reduceAdd, Nat.reduceLT, Nat.reduceLeDiff, Nat.reduceMul, Nat.reduceSub, ↓reduceIte, decide_true, decide_false, Bool.true_eq_false, Bool.false_eq_true, Bool.not_true, Bool.not_false, if_true, if_false, and_true, true_and, memE, celE, w64, Nat.zero_add, Nat.add_zero, Nat.mul_one, putL, and_self, ldn, t2, t3, t7, t8, tm, hlt', h4.at_ x (by omega), (h4.ext _).ld x (by omega)]
    exact ⟨⟨x + 1, by omega, by omega, by rw [rateF_s], by simp⟩, by simp [intOf]; omega⟩
  · have hlt' : ¬ ((x : Int) < t) := by omega
    have e : x = t := by omega
    subst e
    simp (config := {implicitDefEqProofs := false, maxDischargeDepth := 20}) (disch := first | omega | (simp only [lenE]; done) | (simp only [lenE]; omega) | rfl | (simp only [lenE, markR_len]; done) | (simp only [lenE, markR_len]; omega)) only [runE, mapE, listE, initT_5, initT_6, initT_7, initT_8, resV, oneV, binA, unA, reduceCtorEq, Nat.reduceEqDiff, Nat.reduceAdd, Nat.reduceLT, Nat.reduceLeDiff, Nat.reduceMul, Nat.reduceSub, ↓reduceIte, decide_true, decide_false, Bool.true_eq_false, Bool.false_eq_true, Bool.not_true, Bool.not_false, if_true, if_false, and_true, true_and, memE, celE, w64, Nat.zero_add, Nat.add_zero, Nat.mul_one, putL, and_self, ldn, t2, t3, t7, t8, tm, hlt']
    exact ext_ansV ((Ext.refl m).one _ _) rfl

end Go.Proofs.Ytibkaclkaigflaa.Ab
end
section
namespace Go.Proofs.Ytibkaclkaigflaa.Ab
open Go Go.RowKit
set_option linter.unusedVariables false
set_option linter.unusedSimpArgs false
theorem anyN_s {k : Cs} (hg : Good k) {i x : Nat} (h : i ≤ x) : decide (0 < sumR k.need i (x + 1)) = (decide (0 < sumR k.need i x) || decide (0 < k.need.getD x 0)) := by
  have h1 := sumR_nn (m := 20) (by omega) hg.need h
  have h2 := getD_bound (m := 20) (by omega) hg.need x
  rw [sumR_s]
  generalize k.need.getD x 0 = y at *
  generalize sumR k.need i x = z at *
  by_cases a : 0 < z <;> by_cases b : 0 < y <;> simp [a, b] <;> omega

theorem l3Span_rc (m : Mem) (v : Value) (k : Cs) (i j : Nat) (h : CaseA m v k) (hg : Good k) (hij : i < j) (hj : j ≤ k.need.length) :
    RC Try.prog 37 [v, .int .i64 i, .int .i64 j] m (AnsV (.int .i64 (spanF k i j))) := by
  refine rc_of_run mixed ok_spec_l3Span (by simp) (go_start _ _ _ ?_)
  obtain ⟨v1, v2, v3, v4, rfl, h1, h2, h3, h4⟩ := h.ro.ok
  have hc : CaseA (roM m) (.agg #[v1, v2, v3, v4]) k := ⟨_, _, _, _, rfl, h1, h2, h3, h4⟩
  have h8 := hg.n8
  have g0 := hg.ls
  have g1 := hg.lu
  have g2 := hg.lh
  simp (config := {implicitDefEqProofs := false, maxDischargeDepth := 20}) (disch := first | omega | (simp only [lenE]; done) | (simp only [lenE]; omega) | rfl | (simp only [lenE, markR_len]; done) | (simp only [lenE, markR_len]; omega)) only [runE, mapE, listE, initT_5, initT_6, initT_7, initT_8, resV, oneV, binA, unA, reduceCtorEq, Nat.reduceEqDiff, Nat.reduceAdd, Nat.reduceLT, Nat.reduceLeDiff, Nat.reduceMul, Nat.reduceSub, ↓reduceIte, decide_true, decide_false, Bool.true_eq_false, Bool.false_eq_true, Bool.not_true, Bool.not_false, if_true, if_false, and_true, true_and, memE, celE, w64, Nat.zero_add, Nat.add_zero, Nat.mul_one, putL, and_self, ldn, c_spec_l3Span, r_spec_l3Span]
  refine loop_inv mixed (fun s => ∃ (x : Nat) (M : Mem), i ≤ x ∧ x ≤ j ∧ s.t 1 = .int .i64 i ∧ s.t 2 = .int .i64 j ∧ s.t 3 = .pointer (some ⟨m.length, 0, none⟩) ∧ s.t 7 = .int .i64 (spanS k i x) ∧ s.t 8 = .bool (decide (0 < sumR k.need i x)) ∧ s.t 9 = .int .i64 x ∧ s.m = M ∧ Grow (roM m ++ [⟨.own, 26, [v1, v2, v3, v4]⟩]) M) (fun s => j - (intOf (s.t 9)).toNat)
    ⟨i, _, Nat.le_refl _, by omega, rfl, rfl, rfl, by rw [spanS_self]; rfl, by rw [sumR_self]; rfl, rfl, rfl, Grow.refl _⟩ ?_
  rintro s ⟨x, M, hix, hxj, t1, t2, t3, t7, t8, t9, tm, hx⟩
  obtain ⟨r0, r1, r2, r3, hlM⟩ := hx.box4
  by_cases hlt : x < j
  · have hlt' : (x : Int) < j := by omega
    have i1 := hx.intsV h1
    simp (config := {implicitDefEqProofs := false, maxDischargeDepth := 20}) (disch := first | omega | (simp only [lenE]; done) | (simp only [lenE]; omega) | rfl | (simp only [lenE, markR_len]; done) | (simp only [lenE, markR_len]; omega)) only [runE, mapE, listE, initT_5, initT_6, initT_7, initT_8, resV, oneV, binA, unA, reduceCtorEq, Nat.reduceEqDiff, Nat.reduceAdd, Nat.reduceLT, Nat.reduceLeDiff, Nat.reduceMul, Nat.reduceSub, ↓reduceIte, decide_true, decide_false, Bool.true_eq_false, Bool.false_eq_true, Bool.not_true, Bool.not_false, if_true, if_false, and_true, true_and, memE, celE, w64, Nat.zero_add, Nat.add_zero, Nat.mul_one, putL, and_self, ldn, t1, t2, t3, t7, t8, t9, tm, hlt', r0, r1, r2, r3, i1.at_ x (by omega), i1.ld x (by omega)]
    refine rcallH_rc (l3Rate_rc _ _ k i x (hx.caseV hc) hg (by omega) hix (by omega)) ?_
    rintro r new ⟨rfl, nr⟩
    have b1 := spanS_in' hg hix (by omega)
    have b2 := nr_in hg hix (by omega)
    have hx2 := hx.app nr
    have e1 := anyN_s hg hix
    have e2 := spanS_s k hix
    cases hb : decide (0 < sumR k.need i x) with
    | true =>
      rw [hb] at e1
      simp (config := {implicitDefEqProofs := false, maxDischargeDepth := 20}) (disch := first | omega | (simp only [lenE]; done) | (simp only [lenE]; omega) | rfl | (simp only [lenE, markR_len]; done) | (simp only [lenE, markR_len]; omega)) only [runE, mapE, listE, initT_5, initT_6, initT_7, initT_8, resV, oneV, binA, unA, reduceCtorEq, Nat.reduceEqDiff, Nat.reduceAdd, Nat.reduceLT, Nat.reduceLeDiff, Nat.reduceMul, Nat.reduceSub, ↓reduceIte, decide_true, decide_false, Bool.true_eq_false, Bool.false_eq_true, Bool.not_true, Bool.not_false, if_true, if_false, and_true, true_and, memE, celE, w64, Nat.zero_add, Nat.add_zero, Nat.mul_one, putL, and_self, ldn, t1, t2, t3, t7, t8, t9, tm, hb]
      exact ⟨⟨x + 1, _, by omega, by omega, by rw [e2], by rw [e1]; rfl, by simp, rfl, hx2⟩, by simp [intOf]; omega⟩
    | false =>
      rw [hb] at e1
      by_cases hn : 0 < k.need.getD x 0
      · rw [decide_eq_true hn] at e1
        simp (config := {implicitDefEqProofs := false, maxDischargeDepth := 20}) (disch := first | omega | (simp only [lenE]; done) | (simp only [lenE]; omega) | rfl | (simp only [lenE, markR_len]; done) | (simp only [lenE, markR_len]; omega)) only [runE, mapE, listE, initT_5, initT_6, initT_7, initT_8, resV, oneV, binA, unA, reduceCtorEq, Nat.reduceEqDiff, Nat.reduceAdd, Nat.reduceLT, Nat.reduceLeDiff, Nat.reduceMul, Nat.reduceSub, ↓reduceIte, decide_true, decide_false, Bool.true_eq_false, Bool.false_eq_true, Bool.not_true, Bool.not_false, if_true, if_false, and_true, true_and, memE, celE, w64, Nat.zero_add, Nat.add_zero, Nat.mul_one, putL, and_self, ldn, t1, t2, t3, t7, t8, t9, tm, hb, r0, i1.at_ x (by omega), (i1.ext _).ld x (by omega), gt_iff_lt, hn]
        exact ⟨⟨x + 1, _, by omega, by omega, by rw [e2], by rw [e1]; rfl, by simp, rfl, hx2⟩, by simp [intOf]; omega⟩
      · rw [decide_eq_false hn] at e1
        simp (config := {implicitDefEqProofs := false, maxDischargeDepth := 20}) (disch := first | omega | (simp only [lenE]; done) | (simp only [lenE]; omega) | rfl | (simp only [lenE, markR_len]; done) | (simp only [lenE, markR_len]; omega)) only [runE, mapE, listE, initT_5, initT_6, initT_7, initT_8, resV, oneV, binA, unA, reduceCtorEq, Nat.reduceEqDiff, Nat.reduceAdd, Nat.reduceLT, Nat.reduceLeDiff, Nat.reduceMul, Nat.reduceSub, ↓reduceIte, decide_true, decide_false, Bool.true_eq_false, Bool.false_eq_true, Bool.not_true, Bool.not_false, if_true, if_false, and_true, true_and, memE, celE, w64, Nat.zero_add, Nat.add_zero, Nat.mul_one, putL, and_self, ldn, t1, t2, t3, t7, t8, t9, tm, hb, r0, i1.at_ x (by omega), (i1.ext _).ld x (by omega), gt_iff_lt, hn]
        exact ⟨⟨x + 1, _, by omega, by omega, by rw [e2], by rw [e1]; rfl, by simp, rfl, hx2⟩, by simp [intOf]; omega⟩
  · have hlt' : ¬ ((x : Int) < j) := by omega
    have e : x = j := by omega
    subst e
    have b1 := spanS_in' hg hix (by omega)
    have b2 := getD_bound (m := 99) (by omega) hg.setup i
    have i2 := hx.intsV h2
    by_cases hb : 0 < sumR k.need i x
    · have e1 : spanF k i x = k.setup.getD i 0 + spanS k i x := by unfold spanF; rw [if_pos hb]
      rw [e1]
      simp (config := {implicitDefEqProofs := false, maxDischargeDepth := 20}) (disch := first | omega | (simp only [lenE]; done) | (simp only [lenE]; omega) | rfl | (simp only [lenE, markR_len]; done) | (simp only [lenE, markR_len]; omega)) only [runE, mapE, listE, initT_5, initT_6, initT_7, initT_8, resV, oneV, binA, unA, reduceCtorEq, Nat.reduceEqDiff, Nat.reduceAdd, Nat.reduceLT, Nat.reduceLeDiff, Nat.reduceMul, Nat.reduceSub, ↓reduceIte, decide_true, decide_false, Bool.true_eq_false, Bool.false_eq_true, Bool.not_true, Bool.not_false, if_true, if_false, and_true, true_and, memE, celE, w64, Nat.zero_add, Nat.add_zero, Nat.mul_one, putL, and_self, ldn, t1, t2, t3, t7, t8, t9, tm, hlt', hb, r1, i2.at_ i (by omega), i2.ld i (by omega)]
      exact ext_ansV hx.ext rfl
    · have e1 : spanF k i x = 0 := by unfold spanF; rw [if_neg hb]
      rw [e1]
      simp (config := {implicitDefEqProofs := false, maxDischargeDepth := 20}) (disch := first | omega | (simp only [lenE]; done) | (simp only [lenE]; omega) | rfl | (simp only [lenE, markR_len]; done) | (simp only [lenE, markR_len]; omega)) only [runE, mapE, listE, initT_5, initT_6, initT_7, initT_8, resV, oneV, binA, unA, reduceCtorEq, Nat.reduceEqDiff, Nat.reduceAdd, Nat.reduceLT, Nat.reduceLeDiff, Nat.reduceMul, Nat.reduceSub, ↓reduceIte, decide_true, decide_false, Bool.true_eq_false, Bool.false_eq_true, Bool.not_true, Bool.not_false, if_true, if_false, and_true, true_and, memE, celE, w64, Nat.zero_add, Nat.add_zero, Nat.mul_one, putL, and_self, ldn, t1, t2, t3, t7, t8, t9, tm, hlt', hb]
      exact ext_ansV hx.ext rfl

theorem orderCost_rc (m : Mem) (v : Value) (k : Cs) (i j : Nat) (h : CaseA m v k) (hg : Good k) (hij : i < j) (hj : j ≤ k.need.length) :
    RC Try.prog 35 [v, .int .i64 i, .int .i64 j] m (AnsV (.int .i64 (spanF k i j))) := by
  refine rc_of_run mixed ok_impl_orderCost (by simp) (go_start _ _ _ ?_)
  obtain ⟨v1, v2, v3, v4, rfl, h1, h2, h3, h4⟩ := h.ro.ok
  have h8 := hg.n8
  have g0 := hg.ls
  have g1 := hg.lu
  have g2 := hg.lh
  obtain ⟨c1, e1, d1⟩ := (h1.ext [⟨.own, 26, [v1, v2, v3, v4]⟩]).cut (Nat.le_of_lt hij) hj
  simp (config := {implicitDefEqProofs := false, maxDischargeDepth := 20}) (disch := first | omega | (simp only [lenE]; done) | (simp only [lenE]; omega) | rfl | (simp only [lenE, markR_len]; done) | (simp only [lenE, markR_len]; omega)) only [runE, mapE, listE, initT_5, initT_6, initT_7, initT_8, resV, oneV, binA, unA, reduceCtorEq, Nat.reduceEqDiff, Nat.reduceAdd, Nat.reduceLT, Nat.reduceLeDiff, Nat.reduceMul, Nat.reduceSub, ↓reduceIte, decide_true, decide_false, Bool.true_eq_false, Bool.false_eq_true, Bool.not_true, Bool.not_false, if_true, if_false, and_true, true_and, memE, celE, w64, Nat.zero_add, Nat.add_zero, Nat.mul_one, putL, and_self, ldn, c_impl_orderCost, r_impl_orderCost, e1]
  refine callH_rc (sumOf_cut_rc _ _ k.need (b := 20) d1 (by omega) hj (by omega) (by omega) hg.need (by omega)) ?_
  rintro r new ⟨rfl, rfl⟩
  have s0 := sumR_nn (m := 20) (by omega) hg.need (i := i) (j := j) (by omega)
  have s1 := sumR_le8 (m := 20) (by omega) hg.need (i := i) (j := j) (by omega) (by omega)
  by_cases hz : sumR k.need i j = 0
  · have hz' : (sumR k.need i j == 0) = true := by simp [hz]
    simp (config := {implicitDefEqProofs := false, maxDischargeDepth := 20}) (disch := first | omega | (simp only [lenE]; done) | (simp only [lenE]; omega) | rfl | (simp only [lenE, markR_len]; done) | (simp only [lenE, markR_len]; omega)) only [runE, mapE, listE, initT_5, initT_6, initT_7, initT_8, resV, oneV, binA, unA, reduceCtorEq, Nat.reduceEqDiff, Nat.reduceAdd, Nat.reduceLT, Nat.reduceLeDiff, Nat.reduceMul, Nat.reduceSub, ↓reduceIte, decide_true, decide_false, Bool.true_eq_false, Bool.false_eq_true, Bool.not_true, Bool.not_false, if_true, if_false, and_true, true_and, memE, celE, w64, Nat.zero_add, Nat.add_zero, Nat.mul_one, putL, and_self, ldn, hz']
    exact ext_ansV ((Ext.refl m).one _ _) (by rw [spanF_zero k hz])
  · have hz' : (sumR k.need i j == 0) = false := by simp [hz]
    have u0 := getD_bound (m := 9) (by omega) hg.unit i
    have u1 := mul_bound u0.1 u0.2 s0 s1
    have u2 := getD_bound (m := 99) (by omega) hg.setup i
    have i2 := h2.ext [⟨.own, 26, [v1, v2, v3, v4]⟩]
    have i3 := h3.ext [⟨.own, 26, [v1, v2, v3, v4]⟩]
    have i1 := h1.ext [⟨.own, 26, [v1, v2, v3, v4]⟩]
    have i4 := h4.ext [⟨.own, 26, [v1, v2, v3, v4]⟩]
    have so := spanF_order k (Nat.le_of_lt hij) (by omega : 0 < sumR k.need i j)
    simp (config := {implicitDefEqProofs := false, maxDischargeDepth := 20}) (disch := first | omega | (simp only [lenE]; done) | (simp only [lenE]; omega) | rfl | (simp only [lenE, markR_len]; done) | (simp only [lenE, markR_len]; omega)) only [runE, mapE, listE, initT_5, initT_6, initT_7, initT_8, resV, oneV, binA, unA, reduceCtorEq, Nat.reduceEqDiff, Nat.reduceAdd, Nat.reduceLT, Nat.reduceLeDiff, Nat.reduceMul, Nat.reduceSub, ↓reduceIte, decide_true, decide_false, Bool.true_eq_false, Bool.false_eq_true, Bool.not_true, Bool.not_false, if_true, if_false, and_true, true_and, memE, celE, w64, Nat.zero_add, Nat.add_zero, Nat.mul_one, putL, and_self, ldn, hz', i2.at_ i (by omega), i2.ld i (by omega), i3.at_ i (by omega), i3.ld i (by omega)]
    refine loop_inv mixed (fun s => ∃ x : Nat, i ≤ x ∧ x ≤ j ∧ s.t 2 = .int .i64 j ∧ s.t 3 = .pointer (some ⟨m.length, 0, none⟩) ∧ s.t 7 = .int .i64 (sumR k.need x j) ∧ s.t 8 = .int .i64 (k.setup.getD i 0 + k.unit.getD i 0 * sumR k.need i j + holdS k i j x) ∧ s.t 9 = .int .i64 x ∧ s.m = roM m ++ [⟨.own, 26, [v1, v2, v3, v4]⟩]) (fun s => j - (intOf (s.t 9)).toNat)
      ⟨i, Nat.le_refl _, by omega, rfl, rfl, rfl, by rw [holdS_self, Int.add_zero]; rfl, rfl, rfl⟩ ?_
    rintro s ⟨x, hix, hxj, t2, t3, t7, t8, t9, tm⟩
    by_cases hlt : x < j
    · have hlt' : (x : Int) < j := by omega
      have w0 := sumR_h k.need x j
      have w1 := sumR_nn (m := 20) (by omega) hg.need (i := x + 1) (j := j) (by omega)
      have w2 := sumR_le8 (m := 20) (by omega) hg.need (i := x + 1) (j := j) (by omega) (by omega)
      have w3 := getD_bound (m := 9) (by omega) hg.hold x
      have w4 := mul_bound w3.1 w3.2 w1 w2
      have w5 := getD_bound (m := 20) (by omega) hg.need x
      have w6 := holdS_in' hg hix hxj (by omega)
      have w7 : sumR k.need x j - k.need.getD x 0 = sumR k.need (x + 1) j := by omega
      have w8 := holdS_s k (j := j) hix
      simp (config := {implicitDefEqProofs := false, maxDischargeDepth := 20}) (disch := first | omega | (simp only [lenE]; done) | (simp only [lenE]; omega) | rfl | (simp only [lenE, markR_len]; done) | (simp only [lenE, markR_len]; omega)) only [runE, mapE, listE, initT_5, initT_6, initT_7, initT_8, resV, oneV, binA, unA, reduceCtorEq, Nat.reduceEqDiff, Nat.reduceAdd, Nat.reduceLT, Nat.reduceLeDiff, Nat.reduceMul, Nat.reduceSub, ↓reduceIte, decide_true, decide_false, Bool.true_eq_false, Bool.false_eq_true, Bool.not_true, Bool.not_false, if_true, if_false, and_true, true_and, memE, celE, w64, Nat.zero_add, Nat.add_zero, Nat.mul_one, putL, and_self, ldn, t2, t3, t7, t8, t9, tm, hlt', i1.at_ x (by omega), i1.ld x (by omega), i4.at_ x (by omega), i4.ld x (by omega), w7]
      exact ⟨⟨x + 1, by omega, by omega, rfl, by rw [w8]; congr 1; omega, by simp⟩, by simp [intOf]; omega⟩
    · have hlt' : ¬ ((x : Int) < j) := by omega
      have e : x = j := by omega
      subst e
      simp (config := {implicitDefEqProofs := false, maxDischargeDepth := 20}) (disch := first | omega | (simp only [lenE]; done) | (simp only [lenE]; omega) | rfl | (simp only [lenE, markR_len]; done) | (simp only [lenE, markR_len]; omega)) only [runE, mapE, listE, initT_5, initT_6, initT_7, initT_8, resV, oneV, binA, unA, reduceCtorEq, Nat.reduceEqDiff, Nat.reduceAdd, Nat.reduceLT, Nat.reduceLeDiff, Nat.reduceMul, Nat.reduceSub, ↓reduceIte, decide_true, decide_false, Bool.true_eq_false, Bool.false_eq_true, Bool.not_true, Bool.not_false, if_true, if_false, and_true, true_and, memE, celE, w64, Nat.zero_add, Nat.add_zero, Nat.mul_one, putL, and_self, ldn, t2, t3, t7, t8, t9, tm, hlt']
      exact ext_ansV ((Ext.refl m).one _ _) (by rw [so])

end Go.Proofs.Ytibkaclkaigflaa.Ab
end
section
namespace Go.Proofs.Ytibkaclkaigflaa.Ab
open Go Go.RowKit
set_option linter.unusedVariables false
set_option linter.unusedSimpArgs false
def AnsT (m : Mem) (l1 l2 : List Int) (r : Value) (new : Mem) : Prop :=
  NoRo new ∧ ∃ i1 i2 f1 f2, r = .tuple #[.slice (some ⟨m.length + i1, 0, none⟩) l1.length f1, .slice (some ⟨m.length + i2, 0, none⟩) l2.length f2] ∧ new[i1]? = some (rowB l1) ∧ new[i2]? = some (rowB l2)
theorem AnsT.rows {m new : Mem} {l1 l2 : List Int} {r : Value} (h : AnsT m l1 l2 r new) :
    ∃ d1 d2 f1 f2, r = .tuple #[.slice (some ⟨d1, 0, none⟩) l1.length f1, .slice (some ⟨d2, 0, none⟩) l2.length f2] ∧ m.length ≤ d1 ∧ m.length ≤ d2 ∧ OwnR (m ++ new) d1 l1 ∧ OwnR (m ++ new) d2 l2 ∧ NoRo new := by
  obtain ⟨h1, i1, i2, f1, f2, rfl, h3, h4⟩ := h
  exact ⟨_, _, f1, f2, rfl, by omega, by omega, OwnR.new h3 rfl, OwnR.new h4 rfl, h1⟩
theorem ext_ansT {m M : Mem} {l1 l2 : List Int} {d1 d2 n1 n2 f1 f2 : Nat} (h : Ext m M) (o1 : OwnR M d1 l1) (o2 : OwnR M d2 l2) (h1 : m.length ≤ d1) (h2 : m.length ≤ d2) (e1 : n1 = l1.length) (e2 : n2 = l2.length) :
    newQ m (AnsT m l1 l2) (.tuple #[.slice (some ⟨d1, 0, none⟩) n1 f1, .slice (some ⟨d2, 0, none⟩) n2 f2]) M := by
  subst e1 e2
  obtain ⟨n0, rfl, h0⟩ := h
  unfold OwnR at o1 o2
  rw [List.getElem?_append_right (by rw [roM_len]; assumption), roM_len] at o1 o2
  exact ⟨n0, rfl, h0, h0, d1 - m.length, d2 - m.length, f1, f2, by rw [Nat.add_sub_cancel' h1, Nat.add_sub_cancel' h2], o1, o2⟩

theorem l3Forward_rc (m : Mem) (v : Value) (k : Cs) (h : CaseA m v k) (hg : Good k) :
    RC Try.prog 23 [v] m (AnsT m (fwdC k k.need.length) (fwdL k k.need.length)) := by
  refine rc_of_run mixed ok_spec_l3Forward (by simp) (go_start _ _ _ ?_)
  obtain ⟨v1, v2, v3, v4, rfl, h1, h2, h3, h4⟩ := h.ro.ok
  have hc : CaseA (roM m) (.agg #[v1, v2, v3, v4]) k := ⟨_, _, _, _, rfl, h1, h2, h3, h4⟩
  have h8 := hg.n8
  simp (config := {implicitDefEqProofs := false, maxDischargeDepth := 20}) (disch := first | omega | (simp only [lenE]; done) | (simp only [lenE]; omega) | rfl | (simp only [lenE, markR_len]; done) | (simp only [lenE, markR_len]; omega)) only [runE, mapE, listE, initT_5, initT_6, initT_7, initT_8, resV, oneV, binA, unA, reduceCtorEq, Nat.reduceEqDiff, Nat.reduceAdd, Nat.reduceLT, Nat.reduceLeDiff, Nat.reduceMul, Nat.reduceSub, ↓reduceIte, decide_true, decide_false, Bool.true_eq_false, Bool.false_eq_true, Bool.not_true, Bool.not_false, if_true, if_false, and_true, true_and, memE, celE, w64, Nat.zero_add, Nat.add_zero, Nat.mul_one, putL, and_self, ldn, c_spec_l3Forward, r_spec_l3Forward, bsl_one, bsl_none]
  refine loop_inv mixed (fun s => ∃ (q j : Nat) (M : Mem) (ia ib : Nat), j = q + 1 ∧ q ≤ k.need.length ∧ s.t 1 = .pointer (some ⟨m.length, 0, none⟩) ∧ s.t 4 = .slice (some ⟨ia, 0, none⟩) (fwdC k q).length 1 ∧ s.t 5 = .slice (some ⟨ib, 0, none⟩) (fwdL k q).length 1 ∧ s.t 6 = .int .i64 j ∧ s.m = M ∧ Grow (roM m ++ [⟨.own, 26, [v1, v2, v3, v4]⟩]) M ∧ OwnR M ia (fwdC k q) ∧ OwnR M ib (fwdL k q) ∧ ia ≠ ib ∧ m.length < ia ∧ m.length < ib) (fun s => k.need.length + 1 - (intOf (s.t 6)).toNat)
    ⟨0, 1, _, m.length + 1, m.length + 1 + 1, rfl, by omega, rfl, rfl, rfl, rfl, rfl, ((Grow.refl _).one _ _).one _ _, (OwnR.end' (l := [0]) (by simp [roM_len])).ext _, OwnR.end' (l := []) (by simp [roM_len]), by omega, by omega, by omega⟩ ?_
  rintro s ⟨q, j, M, ia, ib, hj, hq, t1, t4, t5, t6, tm, hx, oa, ob, hab, la, lb⟩
  obtain ⟨r0, r1, r2, r3, hlM⟩ := hx.box4
  by_cases hlt : j ≤ k.need.length
  · have hlt' : (j : Int) ≤ k.need.length := by omega
    simp (config := {implicitDefEqProofs := false, maxDischargeDepth := 20}) (disch := first | omega | (simp only [lenE]; done) | (simp only [lenE]; omega) | rfl | (simp only [lenE, markR_len]; done) | (simp only [lenE, markR_len]; omega)) only [runE, mapE, listE, initT_5, initT_6, initT_7, initT_8, resV, oneV, binA, unA, reduceCtorEq, Nat.reduceEqDiff, Nat.reduceAdd, Nat.reduceLT, Nat.reduceLeDiff, Nat.reduceMul, Nat.reduceSub, ↓reduceIte, decide_true, decide_false, Bool.true_eq_false, Bool.false_eq_true, Bool.not_true, Bool.not_false, if_true, if_false, and_true, true_and, memE, celE, w64, Nat.zero_add, Nat.add_zero, Nat.mul_one, putL, and_self, ldn, t1, t4, t5, t6, tm, hlt', r0, (hx.intsV h1).len]
    refine loop_inv mixed (fun s => ∃ (x : Nat) (M' : Mem), 1 ≤ x ∧ x ≤ j ∧ s.t 1 = .pointer (some ⟨m.length, 0, none⟩) ∧ s.t 4 = .slice (some ⟨ia, 0, none⟩) (fwdC k q).length 1 ∧ s.t 5 = .slice (some ⟨ib, 0, none⟩) (fwdL k q).length 1 ∧ s.t 6 = .int .i64 j ∧ s.t 7 = .int .i64 (lastB (valF k (fwdC k q) j) x : Nat) ∧ s.t 8 = .int .i64 x ∧ s.m = M' ∧ Grow M M') (fun s => j - (intOf (s.t 8)).toNat)
      ⟨1, M, by omega, by omega, by simp only [put_t, put_t', put_m, putT_t, putT_t', putT_m, init_t, init_m, initT_0, initT_1, initT_2, initT_3, initT_4, initT_5, initT_6, initT_7, initT_8, Nat.reduceEqDiff, ↓reduceIte, t1], by simp only [put_t, put_t', put_m, putT_t, putT_t', putT_m, init_t, init_m, initT_0, initT_1, initT_2, initT_3, initT_4, initT_5, initT_6, initT_7, initT_8, Nat.reduceEqDiff, ↓reduceIte, t4], by simp only [put_t, put_t', put_m, putT_t, putT_t', putT_m, init_t, init_m, initT_0, initT_1, initT_2, initT_3, initT_4, initT_5, initT_6, initT_7, initT_8, Nat.reduceEqDiff, ↓reduceIte, t5], by simp only [put_t, put_t', put_m, putT_t, putT_t', putT_m, init_t, init_m, initT_0, initT_1, initT_2, initT_3, initT_4, initT_5, initT_6, initT_7, initT_8, Nat.reduceEqDiff, ↓reduceIte, t6], by simp only [put_t, put_t', put_m, putT_t, putT_t', putT_m, init_t, init_m, initT_0, initT_1, initT_2, initT_3, initT_4, initT_5, initT_6, initT_7, initT_8, Nat.reduceEqDiff, ↓reduceIte, lastB_one]; rfl, rfl, by simp only [put_t, put_t', put_m, putT_t, putT_t', putT_m, init_t, init_m, initT_0, initT_1, initT_2, initT_3, initT_4, initT_5, initT_6, initT_7, initT_8, Nat.reduceEqDiff, ↓reduceIte, tm], Grow.refl _⟩ ?_
    rintro s2 ⟨x, M', h1x, hxj, u1, u4, u5, u6, u7, u8, um, hx'⟩
    have hxx := hx.trans hx'
    obtain ⟨q0, q1, q2, q3, hlM'⟩ := hxx.box4
    have fl := fwdC_len k q
    have ll := fwdL_len k q
    have ra := (hx'.own oa).ints (by omega) 1
    obtain ⟨b, hb⟩ : ∃ b, b = lastB (valF k (fwdC k q) j) x := ⟨_, rfl⟩
    have hbx : b < x := by
      have := lastB_lt (valF k (fwdC k q) j) (x - 1)
      rw [Nat.sub_add_cancel h1x] at this
      omega
    rw [← hb] at u7
    have hv : ∀ i, i ≤ q → 0 ≤ (fwdC k q).getD i 0 + spanF k i j ∧ (fwdC k q).getD i 0 + spanF k i j ≤ 130590 := fun i hi => by
      have := valF_in hg (i := i) (j := q) hi (by omega)
      unfold valF at this
      rw [← hj] at this
      omega
    have hvb := hv b (by omega)
    by_cases hlt2 : x < j
    · have hlt2' : (x : Int) < j := by omega
      have hvx := hv x (by omega)
      simp (config := {implicitDefEqProofs := false, maxDischargeDepth := 20}) (disch := first | omega | (simp only [lenE]; done) | (simp only [lenE]; omega) | rfl | (simp only [lenE, markR_len]; done) | (simp only [lenE, markR_len]; omega)) only [runE, mapE, listE, initT_5, initT_6, initT_7, initT_8, resV, oneV, binA, unA, reduceCtorEq, Nat.reduceEqDiff, Nat.reduceAdd, Nat.reduceLT, Nat.reduceLeDiff, Nat.reduceMul, Nat.reduceSub, ↓reduceIte, decide_true, decide_false, Bool.true_eq_false, Bool.false_eq_true, Bool.not_true, Bool.not_false, if_true, if_false, and_true, true_and, memE, celE, w64, Nat.zero_add, Nat.add_zero, Nat.mul_one, putL, and_self, ldn, u1, u4, u5, u6, u7, u8, um, hlt2', ra.at_ x (by omega), ra.ld x (by omega), ra.at_ b (by omega), ra.ld b (by omega), q0, q1, q2, q3]
      refine rcallH_rc (l3Span_rc _ _ k x j (hxx.caseV hc) hg hlt2 hlt) ?_
      rintro r new ⟨rfl, nr⟩
      simp (config := {implicitDefEqProofs := false, maxDischargeDepth := 20}) (disch := first | omega | (simp only [lenE]; done) | (simp only [lenE]; omega) | rfl | (simp only [lenE, markR_len]; done) | (simp only [lenE, markR_len]; omega)) only [runE, mapE, listE, initT_5, initT_6, initT_7, initT_8, resV, oneV, binA, unA, reduceCtorEq, Nat.reduceEqDiff, Nat.reduceAdd, Nat.reduceLT, Nat.reduceLeDiff, Nat.reduceMul, Nat.reduceSub, ↓reduceIte, decide_true, decide_false, Bool.true_eq_false, Bool.false_eq_true, Bool.not_true, Bool.not_false, if_true, if_false, and_true, true_and, memE, celE, w64, Nat.zero_add, Nat.add_zero, Nat.mul_one, putL, and_self, ldn]
      refine rcallH_rc (l3Span_rc _ _ k b j ((hxx.caseV hc).ext _) hg (by omega) hlt) ?_
      rintro r new2 ⟨rfl, nr2⟩
      by_cases hle : (fwdC k q).getD x 0 + spanF k x j ≤ (fwdC k q).getD b 0 + spanF k b j
      · simp (config := {implicitDefEqProofs := false, maxDischargeDepth := 20}) (disch := first | omega | (simp only [lenE]; done) | (simp only [lenE]; omega) | rfl | (simp only [lenE, markR_len]; done) | (simp only [lenE, markR_len]; omega)) only [runE, mapE, listE, initT_5, initT_6, initT_7, initT_8, resV, oneV, binA, unA, reduceCtorEq, Nat.reduceEqDiff, Nat.reduceAdd, Nat.reduceLT, Nat.reduceLeDiff, Nat.reduceMul, Nat.reduceSub, ↓reduceIte, decide_true, decide_false, Bool.true_eq_false, Bool.false_eq_true, Bool.not_true, Bool.not_false, if_true, if_false, and_true, true_and, memE, celE, w64, Nat.zero_add, Nat.add_zero, Nat.mul_one, putL, and_self, ldn, u1, u4, u5, u6, u7, u8, um, hle]
        exact ⟨⟨x + 1, _, by omega, by omega, by rw [lastB, ← hb]; unfold valF; rw [if_pos hle], by simp, rfl, (hx'.app nr).app nr2⟩, by simp [intOf]; omega⟩
      · simp (config := {implicitDefEqProofs := false, maxDischargeDepth := 20}) (disch := first | omega | (simp only [lenE]; done) | (simp only [lenE]; omega) | rfl | (simp only [lenE, markR_len]; done) | (simp only [lenE, markR_len]; omega)) only [runE, mapE, listE, initT_5, initT_6, initT_7, initT_8, resV, oneV, binA, unA, reduceCtorEq, Nat.reduceEqDiff, Nat.reduceAdd, Nat.reduceLT, Nat.reduceLeDiff, Nat.reduceMul, Nat.reduceSub, ↓reduceIte, decide_true, decide_false, Bool.true_eq_false, Bool.false_eq_true, Bool.not_true, Bool.not_false, if_true, if_false, and_true, true_and, memE, celE, w64, Nat.zero_add, Nat.add_zero, Nat.mul_one, putL, and_self, ldn, u1, u4, u5, u6, u7, u8, um, hle]
        exact ⟨⟨x + 1, _, by omega, by omega, by rw [lastB, ← hb]; unfold valF; rw [if_neg hle], by simp, rfl, (hx'.app nr).app nr2⟩, by simp [intOf]; omega⟩
    · have hlt2' : ¬ ((x : Int) < j) := by omega
      have hxe : x = j := by omega
      subst hxe
      simp (config := {implicitDefEqProofs := false, maxDischargeDepth := 20}) (disch := first | omega | (simp only [lenE]; done) | (simp only [lenE]; omega) | rfl | (simp only [lenE, markR_len]; done) | (simp only [lenE, markR_len]; omega)) only [runE, mapE, listE, initT_5, initT_6, initT_7, initT_8, resV, oneV, binA, unA, reduceCtorEq, Nat.reduceEqDiff, Nat.reduceAdd, Nat.reduceLT, Nat.reduceLeDiff, Nat.reduceMul, Nat.reduceSub, ↓reduceIte, decide_true, decide_false, Bool.true_eq_false, Bool.false_eq_true, Bool.not_true, Bool.not_false, if_true, if_false, and_true, true_and, memE, celE, w64, Nat.zero_add, Nat.add_zero, Nat.mul_one, putL, and_self, ldn, u1, u4, u5, u6, u7, u8, um, hlt2', ra.at_ b (by omega), ra.ld b (by omega), q0, q1, q2, q3]
      refine rcallH_rc (l3Span_rc _ _ k b x (hxx.caseV hc) hg hbx hlt) ?_
      rintro r new ⟨rfl, nr⟩
      have oa' := (hx'.own oa).ext new
      have ob' := (hx'.own ob).ext new
      have la' := oa'.lt
      have lb' := ob'.lt
      simp only [List.length_append] at la' lb'
      have ap1 := fun id2 n => app_genH (M := M' ++ new) (x := (fwdC k q).getD b 0 + spanF k b x) (id2 := id2) (n := n) oa' (by omega)
      have ap2 := fun id2 n => app_genH (M := (M' ++ new).set ia deadB ++ [⟨.own, 3, [.int .i64 ((fwdC k q).getD b 0 + spanF k b x)]⟩] ++ [⟨.own, 3, (fwdC k q ++ [(fwdC k q).getD b 0 + spanF k b x]).map (Value.int .i64)⟩]) (x := (b : Int)) (id2 := id2) (n := n) (((ob'.dead hab).ext _).ext _) (by omega)
      simp (config := {implicitDefEqProofs := false, maxDischargeDepth := 20}) (disch := first | omega | (simp only [lenE]; done) | (simp only [lenE]; omega) | rfl | (simp only [lenE, markR_len]; done) | (simp only [lenE, markR_len]; omega)) only [runE, mapE, listE, initT_5, initT_6, initT_7, initT_8, resV, oneV, binA, unA, reduceCtorEq, Nat.reduceEqDiff, Nat.reduceAdd, Nat.reduceLT, Nat.reduceLeDiff, Nat.reduceMul, Nat.reduceSub, ↓reduceIte, decide_true, decide_false, Bool.true_eq_false, Bool.false_eq_true, Bool.not_true, Bool.not_false, if_true, if_false, and_true, true_and, memE, celE, w64, Nat.zero_add, Nat.add_zero, Nat.mul_one, putL, and_self, ldn, u1, u4, u5, u6, u7, u8, um, bsl_one, ap1, ap2]
      have eC : fwdC k (q + 1) = fwdC k q ++ [(fwdC k q).getD b 0 + spanF k b x] := by rw [fwdC, ← hj, ← hb]; rfl
      have eL : fwdL k (q + 1) = fwdL k q ++ [(b : Int)] := by rw [fwdL]; unfold fwdB; rw [← hj, ← hb]
      refine ⟨⟨q + 1, x + 1, _, _, _, by omega, by omega, by rw [eC, List.length_append, List.length_singleton], by rw [eL, List.length_append, List.length_singleton], by simp, rfl,
        (((((((hxx.app nr).dead ?_).one _ _).one _ _).dead ?_).one _ _).one _ _), ?_, ?_, ?_, ?_, ?_⟩, by simp [intOf]; omega⟩
      · simp [roM_len]; omega
      · simp [roM_len]; omega
      · rw [eC]
        refine (((OwnR.end' (l := fwdC k q ++ [(fwdC k q).getD b 0 + spanF k b x]) ?_).dead ?_).ext _).ext _
        · simp
        · omega
      · rw [eL]
        refine OwnR.end' (l := fwdL k q ++ [(b : Int)]) ?_
        simp
      all_goals omega
  · have hlt' : ¬ ((j : Int) ≤ k.need.length) := by omega
    have e : q = k.need.length := by omega
    subst e
    simp (config := {implicitDefEqProofs := false, maxDischargeDepth := 20}) (disch := first | omega | (simp only [lenE]; done) | (simp only [lenE]; omega) | rfl | (simp only [lenE, markR_len]; done) | (simp only [lenE, markR_len]; omega)) only [runE, mapE, listE, initT_5, initT_6, initT_7, initT_8, resV, oneV, binA, unA, reduceCtorEq, Nat.reduceEqDiff, Nat.reduceAdd, Nat.reduceLT, Nat.reduceLeDiff, Nat.reduceMul, Nat.reduceSub, ↓reduceIte, decide_true, decide_false, Bool.true_eq_false, Bool.false_eq_true, Bool.not_true, Bool.not_false, if_true, if_false, and_true, true_and, memE, celE, w64, Nat.zero_add, Nat.add_zero, Nat.mul_one, putL, and_self, ldn, t1, t4, t5, t6, tm, hlt', r0, (hx.intsV h1).len]
    exact ext_ansT hx.ext oa ob (by omega) (by omega) rfl rfl

theorem forwardTable_rc (m : Mem) (v : Value) (k : Cs) (h : CaseA m v k) (hg : Good k) :
    RC Try.prog 21 [v] m (AnsT m (fwdC k k.need.length) (fwdL k k.need.length)) := by
  refine rc_of_run mixed ok_impl_forwardTable (by simp) (go_start _ _ _ ?_)
  obtain ⟨v1, v2, v3, v4, rfl, h1, h2, h3, h4⟩ := h.ro.ok
  have hc : CaseA (roM m) (.agg #[v1, v2, v3, v4]) k := ⟨_, _, _, _, rfl, h1, h2, h3, h4⟩
  have h8 := hg.n8
  simp (config := {implicitDefEqProofs := false, maxDischargeDepth := 20}) (disch := first | omega | (simp only [lenE]; done) | (simp only [lenE]; omega) | rfl | (simp only [lenE, markR_len]; done) | (simp only [lenE, markR_len]; omega)) only [runE, mapE, listE, initT_5, initT_6, initT_7, initT_8, resV, oneV, binA, unA, reduceCtorEq, Nat.reduceEqDiff, Nat.reduceAdd, Nat.reduceLT, Nat.reduceLeDiff, Nat.reduceMul, Nat.reduceSub, ↓reduceIte, decide_true, decide_false, Bool.true_eq_false, Bool.false_eq_true, Bool.not_true, Bool.not_false, if_true, if_false, and_true, true_and, memE, celE, w64, Nat.zero_add, Nat.add_zero, Nat.mul_one, putL, and_self, ldn, c_impl_forwardTable, r_impl_forwardTable, bsl_one, bsl_none]
  refine loop_inv mixed (fun s => ∃ (q j : Nat) (M : Mem) (ia ib : Nat), j = q + 1 ∧ q ≤ k.need.length ∧ s.t 1 = .pointer (some ⟨m.length, 0, none⟩) ∧ s.t 4 = .slice (some ⟨ia, 0, none⟩) (fwdC k q).length 1 ∧ s.t 5 = .slice (some ⟨ib, 0, none⟩) (fwdL k q).length 1 ∧ s.t 6 = .int .i64 j ∧ s.m = M ∧ Grow (roM m ++ [⟨.own, 26, [v1, v2, v3, v4]⟩]) M ∧ OwnR M ia (fwdC k q) ∧ OwnR M ib (fwdL k q) ∧ ia ≠ ib ∧ m.length < ia ∧ m.length < ib) (fun s => k.need.length + 1 - (intOf (s.t 6)).toNat)
    ⟨0, 1, _, m.length + 1, m.length + 1 + 1, rfl, by omega, rfl, rfl, rfl, rfl, rfl, ((Grow.refl _).one _ _).one _ _, (OwnR.end' (l := [0]) (by simp [roM_len])).ext _, OwnR.end' (l := []) (by simp [roM_len]), by omega, by omega, by omega⟩ ?_
  rintro s ⟨q, j, M, ia, ib, hj, hq, t1, t4, t5, t6, tm, hx, oa, ob, hab, la, lb⟩
  obtain ⟨r0, r1, r2, r3, hlM⟩ := hx.box4
  by_cases hlt : j ≤ k.need.length
  · have hlt' : (j : Int) ≤ k.need.length := by omega
    simp (config := {implicitDefEqProofs := false, maxDischargeDepth := 20}) (disch := first | omega | (simp only [lenE]; done) | (simp only [lenE]; omega) | rfl | (simp only [lenE, markR_len]; done) | (simp only [lenE, markR_len]; omega)) only [runE, mapE, listE, initT_5, initT_6, initT_7, initT_8, resV, oneV, binA, unA, reduceCtorEq, Nat.reduceEqDiff, Nat.reduceAdd, Nat.reduceLT, Nat.reduceLeDiff, Nat.reduceMul, Nat.reduceSub, ↓reduceIte, decide_true, decide_false, Bool.true_eq_false, Bool.false_eq_true, Bool.not_true, Bool.not_false, if_true, if_false, and_true, true_and, memE, celE, w64, Nat.zero_add, Nat.add_zero, Nat.mul_one, putL, and_self, ldn, t1, t4, t5, t6, tm, hlt', r0, r1, r2, r3, (hx.intsV h1).len]
    refine callH_rc (orderCost_rc _ _ k 0 j (hx.caseV hc) hg (by omega) hlt) ?_
    rintro r new0 ⟨rfl, nr0⟩
    simp (config := {implicitDefEqProofs := false, maxDischargeDepth := 20}) (disch := first | omega | (simp only [lenE]; done) | (simp only [lenE]; omega) | rfl | (simp only [lenE, markR_len]; done) | (simp only [lenE, markR_len]; omega)) only [runE, mapE, listE, initT_5, initT_6, initT_7, initT_8, resV, oneV, binA, unA, reduceCtorEq, Nat.reduceEqDiff, Nat.reduceAdd, Nat.reduceLT, Nat.reduceLeDiff, Nat.reduceMul, Nat.reduceSub, ↓reduceIte, decide_true, decide_false, Bool.true_eq_false, Bool.false_eq_true, Bool.not_true, Bool.not_false, if_true, if_false, and_true, true_and, memE, celE, w64, Nat.zero_add, Nat.add_zero, Nat.mul_one, putL, and_self, ldn, t1, t4, t5, t6, tm]
    refine loop_inv mixed (fun s => ∃ (x : Nat) (M' : Mem), 1 ≤ x ∧ x ≤ j ∧ s.t 1 = .pointer (some ⟨m.length, 0, none⟩) ∧ s.t 4 = .slice (some ⟨ia, 0, none⟩) (fwdC k q).length 1 ∧ s.t 5 = .slice (some ⟨ib, 0, none⟩) (fwdL k q).length 1 ∧ s.t 6 = .int .i64 j ∧ s.t 7 = .int .i64 (valF k (fwdC k q) j (lastB (valF k (fwdC k q) j) x)) ∧ s.t 8 = .int .i64 (lastB (valF k (fwdC k q) j) x : Nat) ∧ s.t 9 = .int .i64 x ∧ s.m = M' ∧ Grow M M') (fun s => j - (intOf (s.t 9)).toNat)
      ⟨1, _, by omega, by omega, by simp only [put_t, put_t', put_m, putT_t, putT_t', putT_m, init_t, init_m, initT_0, initT_1, initT_2, initT_3, initT_4, initT_5, initT_6, initT_7, initT_8, Nat.reduceEqDiff, ↓reduceIte, t1], by simp only [put_t, put_t', put_m, putT_t, putT_t', putT_m, init_t, init_m, initT_0, initT_1, initT_2, initT_3, initT_4, initT_5, initT_6, initT_7, initT_8, Nat.reduceEqDiff, ↓reduceIte, t4], by simp only [put_t, put_t', put_m, putT_t, putT_t', putT_m, init_t, init_m, initT_0, initT_1, initT_2, initT_3, initT_4, initT_5, initT_6, initT_7, initT_8, Nat.reduceEqDiff, ↓reduceIte, t5], by simp only [put_t, put_t', put_m, putT_t, putT_t', putT_m, init_t, init_m, initT_0, initT_1, initT_2, initT_3, initT_4, initT_5, initT_6, initT_7, initT_8, Nat.reduceEqDiff, ↓reduceIte, t6], by simp only [put_t, put_t', put_m, putT_t, putT_t', putT_m, init_t, init_m, initT_0, initT_1, initT_2, initT_3, initT_4, initT_5, initT_6, initT_7, initT_8, Nat.reduceEqDiff, ↓reduceIte, lastB_one]; unfold valF; rw [fwdC_at0, Int.zero_add], by simp only [put_t, put_t', put_m, putT_t, putT_t', putT_m, init_t, init_m, initT_0, initT_1, initT_2, initT_3, initT_4, initT_5, initT_6, initT_7, initT_8, Nat.reduceEqDiff, ↓reduceIte, lastB_one]; rfl, rfl, by simp only [put_t, put_t', put_m, putT_t, putT_t', putT_m, init_t, init_m, initT_0, initT_1, initT_2, initT_3, initT_4, initT_5, initT_6, initT_7, initT_8, Nat.reduceEqDiff, ↓reduceIte, tm], (Grow.refl _).app nr0⟩ ?_
    rintro s2 ⟨x, M', h1x, hxj, u1, u4, u5, u6, u7, u8, u9, um, hx'⟩
    have hxx := hx.trans hx'
    obtain ⟨q0, q1, q2, q3, hlM'⟩ := hxx.box4
    have fl := fwdC_len k q
    have ll := fwdL_len k q
    have ra := (hx'.own oa).ints (by omega) 1
    obtain ⟨b, hb⟩ : ∃ b, b = lastB (valF k (fwdC k q) j) x := ⟨_, rfl⟩
    have hbx : b < x := by
      have := lastB_lt (valF k (fwdC k q) j) (x - 1)
      rw [Nat.sub_add_cancel h1x] at this
      omega
    rw [← hb] at u7 u8
    have hv : ∀ i, i ≤ q → 0 ≤ valF k (fwdC k q) j i ∧ valF k (fwdC k q) j i ≤ 130590 := fun i hi => by
      have := valF_in hg (i := i) (j := q) hi (by omega)
      rw [← hj] at this
      omega
    have hvb := hv b (by omega)
    by_cases hlt2 : x < j
    · have hlt2' : (x : Int) < j := by omega
      have hvx := hv x (by omega)
      have hvx2 := hvx
      unfold valF at hvx2
      simp (config := {implicitDefEqProofs := false, maxDischargeDepth := 20}) (disch := first | omega | (simp only [lenE]; done) | (simp only [lenE]; omega) | rfl | (simp only [lenE, markR_len]; done) | (simp only [lenE, markR_len]; omega)) only [runE, mapE, listE, initT_5, initT_6, initT_7, initT_8, resV, oneV, binA, unA, reduceCtorEq, Nat.reduceEqDiff, Nat.reduceAdd, Nat.reduceLT, Nat.reduceLeDiff, Nat.reduceMul, Nat.reduceSub, ↓reduceIte, decide_true, decide_false, Bool.true_eq_false, Bool.false_eq_true, Bool.not_true, Bool.not_false, if_true, if_false, and_true, true_and, memE, celE, w64, Nat.zero_add, Nat.add_zero, Nat.mul_one, putL, and_self, ldn, u1, u4, u5, u6, u7, u8, u9, um, hlt2', ra.at_ x (by omega), ra.ld x (by omega), q0, q1, q2, q3]
      refine rcallH_rc (orderCost_rc _ _ k x j (hxx.caseV hc) hg hlt2 hlt) ?_
      rintro r new ⟨rfl, nr⟩
      by_cases hle : (fwdC k q).getD x 0 + spanF k x j ≤ valF k (fwdC k q) j b
      · simp (config := {implicitDefEqProofs := false, maxDischargeDepth := 20}) (disch := first | omega | (simp only [lenE]; done) | (simp only [lenE]; omega) | rfl | (simp only [lenE, markR_len]; done) | (simp only [lenE, markR_len]; omega)) only [runE, mapE, listE, initT_5, initT_6, initT_7, initT_8, resV, oneV, binA, unA, reduceCtorEq, Nat.reduceEqDiff, Nat.reduceAdd, Nat.reduceLT, Nat.reduceLeDiff, Nat.reduceMul, Nat.reduceSub, ↓reduceIte, decide_true, decide_false, Bool.true_eq_false, Bool.false_eq_true, Bool.not_true, Bool.not_false, if_true, if_false, and_true, true_and, memE, celE, w64, Nat.zero_add, Nat.add_zero, Nat.mul_one, putL, and_self, ldn, u1, u4, u5, u6, u7, u8, u9, um, hle]
        exact ⟨⟨x + 1, _, by omega, by omega, by rw [lastB, ← hb, if_pos (by unfold valF at hle ⊢; exact hle)]; rfl, by rw [lastB, ← hb, if_pos (by unfold valF at hle ⊢; exact hle)], by simp, rfl, hx'.app nr⟩, by simp [intOf]; omega⟩
      · simp (config := {implicitDefEqProofs := false, maxDischargeDepth := 20}) (disch := first | omega | (simp only [lenE]; done) | (simp only [lenE]; omega) | rfl | (simp only [lenE, markR_len]; done) | (simp only [lenE, markR_len]; omega)) only [runE, mapE, listE, initT_5, initT_6, initT_7, initT_8, resV, oneV, binA, unA, reduceCtorEq, Nat.reduceEqDiff, Nat.reduceAdd, Nat.reduceLT, Nat.reduceLeDiff, Nat.reduceMul, Nat.reduceSub, ↓reduceIte, decide_true, decide_false, Bool.true_eq_false, Bool.false_eq_true, Bool.not_true, Bool.not_false, if_true, if_false, and_true, true_and, memE, celE, w64, Nat.zero_add, Nat.add_zero, Nat.mul_one, putL, and_self, ldn, u1, u4, u5, u6, u7, u8, u9, um, hle]
        exact ⟨⟨x + 1, _, by omega, by omega, by rw [lastB, ← hb, if_neg (by unfold valF at hle ⊢; exact hle)], by rw [lastB, ← hb, if_neg (by unfold valF at hle ⊢; exact hle)], by simp, rfl, hx'.app nr⟩, by simp [intOf]; omega⟩
    · have hlt2' : ¬ ((x : Int) < j) := by omega
      have hxe : x = j := by omega
      subst hxe
      have oa' := hx'.own oa
      have ob' := hx'.own ob
      have la' := oa'.lt
      have lb' := ob'.lt
      have ap1 := fun id2 n => app_genH (M := M') (x := valF k (fwdC k q) x b) (id2 := id2) (n := n) oa' (by omega)
      have ap2 := fun id2 n => app_genH (M := M'.set ia deadB ++ [⟨.own, 3, [.int .i64 (valF k (fwdC k q) x b)]⟩] ++ [⟨.own, 3, (fwdC k q ++ [valF k (fwdC k q) x b]).map (Value.int .i64)⟩]) (x := (b : Int)) (id2 := id2) (n := n) (((ob'.dead hab).ext _).ext _) (by omega)
      simp (config := {implicitDefEqProofs := false, maxDischargeDepth := 20}) (disch := first | omega | (simp only [lenE]; done) | (simp only [lenE]; omega) | rfl | (simp only [lenE, markR_len]; done) | (simp only [lenE, markR_len]; omega)) only [runE, mapE, listE, initT_5, initT_6, initT_7, initT_8, resV, oneV, binA, unA, reduceCtorEq, Nat.reduceEqDiff, Nat.reduceAdd, Nat.reduceLT, Nat.reduceLeDiff, Nat.reduceMul, Nat.reduceSub, ↓reduceIte, decide_true, decide_false, Bool.true_eq_false, Bool.false_eq_true, Bool.not_true, Bool.not_false, if_true, if_false, and_true, true_and, memE, celE, w64, Nat.zero_add, Nat.add_zero, Nat.mul_one, putL, and_self, ldn, u1, u4, u5, u6, u7, u8, u9, um, hlt2', bsl_one, ap1, ap2]
      have eC : fwdC k (q + 1) = fwdC k q ++ [valF k (fwdC k q) x b] := by rw [fwdC, ← hj, ← hb]
      have eL : fwdL k (q + 1) = fwdL k q ++ [(b : Int)] := by rw [fwdL]; unfold fwdB; rw [← hj, ← hb]
      refine ⟨⟨q + 1, x + 1, _, _, _, by omega, by omega, by rw [eC, List.length_append, List.length_singleton], by rw [eL, List.length_append, List.length_singleton], by simp, rfl,
        ((((((hxx.dead ?_).one _ _).one _ _).dead ?_).one _ _).one _ _), ?_, ?_, ?_, ?_, ?_⟩, by simp [intOf]; omega⟩
      · simp [roM_len]; omega
      · simp [roM_len]; omega
      · rw [eC]
        refine (((OwnR.end' (l := fwdC k q ++ [valF k (fwdC k q) x b]) ?_).dead ?_).ext _).ext _
        · simp
        · omega
      · rw [eL]
        refine OwnR.end' (l := fwdL k q ++ [(b : Int)]) ?_
        simp
      all_goals omega
  · have hlt' : ¬ ((j : Int) ≤ k.need.length) := by omega
    have e : q = k.need.length := by omega
    subst e
    simp (config := {implicitDefEqProofs := false, maxDischargeDepth := 20}) (disch := first | omega | (simp only [lenE]; done) | (simp only [lenE]; omega) | rfl | (simp only [lenE, markR_len]; done) | (simp only [lenE, markR_len]; omega)) only [runE, mapE, listE, initT_5, initT_6, initT_7, initT_8, resV, oneV, binA, unA, reduceCtorEq, Nat.reduceEqDiff, Nat.reduceAdd, Nat.reduceLT, Nat.reduceLeDiff, Nat.reduceMul, Nat.reduceSub, ↓reduceIte, decide_true, decide_false, Bool.true_eq_false, Bool.false_eq_true, Bool.not_true, Bool.not_false, if_true, if_false, and_true, true_and, memE, celE, w64, Nat.zero_add, Nat.add_zero, Nat.mul_one, putL, and_self, ldn, t1, t4, t5, t6, tm, hlt', r0, (hx.intsV h1).len]
    exact ext_ansT hx.ext oa ob (by omega) (by omega) rfl rfl

def lastsA (k : Cs) : List Int := if k.good then fwdL k k.need.length else []
theorem lastsA_no {k : Cs} (h : k.good = false) : lastsA k = [] := by unfold lastsA; rw [h]; rfl
theorem lastsA_yes {k : Cs} (h : k.good = true) : lastsA k = fwdL k k.need.length := by unfold lastsA; rw [h]; rfl

theorem specLasts_rc (m : Mem) (v : Value) (k : Cs) (h : CaseA m v k) : RC Try.prog 9 [v] m (AnsL m (lastsA k) k.good) := by
  refine rc_of_run mixed ok_spec_LastOrders (by simp) (go_start _ _ _ ?_)
  obtain ⟨v1, v2, v3, v4, rfl, h1, h2, h3, h4⟩ := h.ro.ok
  have hc : CaseA (roM m) (.agg #[v1, v2, v3, v4]) k := ⟨_, _, _, _, rfl, h1, h2, h3, h4⟩
  simp (config := {implicitDefEqProofs := false, maxDischargeDepth := 20}) (disch := first | omega | (simp only [lenE]; done) | (simp only [lenE]; omega) | rfl | (simp only [lenE, markR_len]; done) | (simp only [lenE, markR_len]; omega)) only [runE, mapE, listE, initT_5, initT_6, initT_7, initT_8, resV, oneV, binA, unA, reduceCtorEq, Nat.reduceEqDiff, Nat.reduceAdd, Nat.reduceLT, Nat.reduceLeDiff, Nat.reduceMul, Nat.reduceSub, ↓reduceIte, decide_true, decide_false, Bool.true_eq_false, Bool.false_eq_true, Bool.not_true, Bool.not_false, if_true, if_false, and_true, true_and, memE, celE, w64, Nat.zero_add, Nat.add_zero, Nat.mul_one, putL, and_self, ldn, c_spec_LastOrders, r_spec_LastOrders]
  refine callH_rc (l2Good_rc _ _ k (hc.ext _)) ?_
  rintro r new ⟨rfl, nr1⟩
  have hx : Grow (roM m ++ [⟨.own, 26, [v1, v2, v3, v4]⟩]) (roM m ++ [⟨.own, 26, [v1, v2, v3, v4]⟩] ++ new) := (Grow.refl _).app nr1
  cases hg : k.good with
  | false =>
    simp (config := {implicitDefEqProofs := false, maxDischargeDepth := 20}) (disch := first | omega | (simp only [lenE]; done) | (simp only [lenE]; omega) | rfl | (simp only [lenE, markR_len]; done) | (simp only [lenE, markR_len]; omega)) only [runE, mapE, listE, initT_5, initT_6, initT_7, initT_8, resV, oneV, binA, unA, reduceCtorEq, Nat.reduceEqDiff, Nat.reduceAdd, Nat.reduceLT, Nat.reduceLeDiff, Nat.reduceMul, Nat.reduceSub, ↓reduceIte, decide_true, decide_false, Bool.true_eq_false, Bool.false_eq_true, Bool.not_true, Bool.not_false, if_true, if_false, and_true, true_and, memE, celE, w64, Nat.zero_add, Nat.add_zero, Nat.mul_one, putL, and_self, ldn, bsl_none]
    rw [lastsA_no hg]
    refine ext_ansL (hx.ext.one _ _) (OwnR.end' (l := []) ?_) (by omega) rfl (by simp)
    simp only [List.length_append, List.length_cons, List.length_nil, roM_len]
  | true =>
    have gd := good_iff.1 hg
    have h8 := gd.n8
    rw [lastsA_yes hg]
    have fl := fwdC_len k k.need.length
    have ll := fwdL_len k k.need.length
    simp (config := {implicitDefEqProofs := false, maxDischargeDepth := 20}) (disch := first | omega | (simp only [lenE]; done) | (simp only [lenE]; omega) | rfl | (simp only [lenE, markR_len]; done) | (simp only [lenE, markR_len]; omega)) only [runE, mapE, listE, initT_5, initT_6, initT_7, initT_8, resV, oneV, binA, unA, reduceCtorEq, Nat.reduceEqDiff, Nat.reduceAdd, Nat.reduceLT, Nat.reduceLeDiff, Nat.reduceMul, Nat.reduceSub, ↓reduceIte, decide_true, decide_false, Bool.true_eq_false, Bool.false_eq_true, Bool.not_true, Bool.not_false, if_true, if_false, and_true, true_and, memE, celE, w64, Nat.zero_add, Nat.add_zero, Nat.mul_one, putL, and_self, ldn]
    refine callH_rc (l3Forward_rc _ _ k (hx.caseV hc) gd) ?_
    intro r new2 hA
    obtain ⟨d1, d2, f1, f2, rfl, l1, l2, o1, o2, nr2⟩ := hA.rows
    have hx2 := hx.app nr2
    simp only [List.length_append, List.length_cons, List.length_nil, roM_len] at l1 l2
    simp (config := {implicitDefEqProofs := false, maxDischargeDepth := 20}) (disch := first | omega | (simp only [lenE]; done) | (simp only [lenE]; omega) | rfl | (simp only [lenE, markR_len]; done) | (simp only [lenE, markR_len]; omega)) only [runE, mapE, listE, initT_5, initT_6, initT_7, initT_8, resV, oneV, binA, unA, reduceCtorEq, Nat.reduceEqDiff, Nat.reduceAdd, Nat.reduceLT, Nat.reduceLeDiff, Nat.reduceMul, Nat.reduceSub, ↓reduceIte, decide_true, decide_false, Bool.true_eq_false, Bool.false_eq_true, Bool.not_true, Bool.not_false, if_true, if_false, and_true, true_and, memE, celE, w64, Nat.zero_add, Nat.add_zero, Nat.mul_one, putL, and_self, ldn, ext_2_0, ext_2_1]
    exact ext_ansL hx2.ext o2 (by omega) rfl (by omega)

theorem implLasts_rc (m : Mem) (v : Value) (k : Cs) (h : CaseA m v k) : RC Try.prog 8 [v] m (AnsL m (lastsA k) k.good) := by
  refine rc_of_run mixed ok_impl_LastOrders (by simp) (go_start _ _ _ ?_)
  obtain ⟨v1, v2, v3, v4, rfl, h1, h2, h3, h4⟩ := h.ro.ok
  have hc : CaseA (roM m) (.agg #[v1, v2, v3, v4]) k := ⟨_, _, _, _, rfl, h1, h2, h3, h4⟩
  simp (config := {implicitDefEqProofs := false, maxDischargeDepth := 20}) (disch := first | omega | (simp only [lenE]; done) | (simp only [lenE]; omega) | rfl | (simp only [lenE, markR_len]; done) | (simp only [lenE, markR_len]; omega)) only [runE, mapE, listE, initT_5, initT_6, initT_7, initT_8, resV, oneV, binA, unA, reduceCtorEq, Nat.reduceEqDiff, Nat.reduceAdd, Nat.reduceLT, Nat.reduceLeDiff, Nat.reduceMul, Nat.reduceSub, ↓reduceIte, decide_true, decide_false, Bool.true_eq_false, Bool.false_eq_true, Bool.not_true, Bool.not_false, if_true, if_false, and_true, true_and, memE, celE, w64, Nat.zero_add, Nat.add_zero, Nat.mul_one, putL, and_self, ldn, c_impl_LastOrders, r_impl_LastOrders]
  refine callH_rc (implIsCase_rc _ _ k (hc.ext _)) ?_
  rintro r new ⟨rfl, nr1⟩
  have hx : Grow (roM m ++ [⟨.own, 26, [v1, v2, v3, v4]⟩]) (roM m ++ [⟨.own, 26, [v1, v2, v3, v4]⟩] ++ new) := (Grow.refl _).app nr1
  cases hg : k.good with
  | false =>
    simp (config := {implicitDefEqProofs := false, maxDischargeDepth := 20}) (disch := first | omega | (simp only [lenE]; done) | (simp only [lenE]; omega) | rfl | (simp only [lenE, markR_len]; done) | (simp only [lenE, markR_len]; omega)) only [runE, mapE, listE, initT_5, initT_6, initT_7, initT_8, resV, oneV, binA, unA, reduceCtorEq, Nat.reduceEqDiff, Nat.reduceAdd, Nat.reduceLT, Nat.reduceLeDiff, Nat.reduceMul, Nat.reduceSub, ↓reduceIte, decide_true, decide_false, Bool.true_eq_false, Bool.false_eq_true, Bool.not_true, Bool.not_false, if_true, if_false, and_true, true_and, memE, celE, w64, Nat.zero_add, Nat.add_zero, Nat.mul_one, putL, and_self, ldn, bsl_none]
    rw [lastsA_no hg]
    refine ext_ansL (hx.ext.one _ _) (OwnR.end' (l := []) ?_) (by omega) rfl (by simp)
    simp only [List.length_append, List.length_cons, List.length_nil, roM_len]
  | true =>
    have gd := good_iff.1 hg
    have h8 := gd.n8
    rw [lastsA_yes hg]
    have fl := fwdC_len k k.need.length
    have ll := fwdL_len k k.need.length
    simp (config := {implicitDefEqProofs := false, maxDischargeDepth := 20}) (disch := first | omega | (simp only [lenE]; done) | (simp only [lenE]; omega) | rfl | (simp only [lenE, markR_len]; done) | (simp only [lenE, markR_len]; omega)) only [runE, mapE, listE, initT_5, initT_6, initT_7, initT_8, resV, oneV, binA, unA, reduceCtorEq, Nat.reduceEqDiff, Nat.reduceAdd, Nat.reduceLT, Nat.reduceLeDiff, Nat.reduceMul, Nat.reduceSub, ↓reduceIte, decide_true, decide_false, Bool.true_eq_false, Bool.false_eq_true, Bool.not_true, Bool.not_false, if_true, if_false, and_true, true_and, memE, celE, w64, Nat.zero_add, Nat.add_zero, Nat.mul_one, putL, and_self, ldn]
    refine callH_rc (forwardTable_rc _ _ k (hx.caseV hc) gd) ?_
    intro r new2 hA
    obtain ⟨d1, d2, f1, f2, rfl, l1, l2, o1, o2, nr2⟩ := hA.rows
    have hx2 := hx.app nr2
    simp only [List.length_append, List.length_cons, List.length_nil, roM_len] at l1 l2
    simp (config := {implicitDefEqProofs := false, maxDischargeDepth := 20}) (disch := first | omega | (simp only [lenE]; done) | (simp only [lenE]; omega) | rfl | (simp only [lenE, markR_len]; done) | (simp only [lenE, markR_len]; omega)) only [runE, mapE, listE, initT_5, initT_6, initT_7, initT_8, resV, oneV, binA, unA, reduceCtorEq, Nat.reduceEqDiff, Nat.reduceAdd, Nat.reduceLT, Nat.reduceLeDiff, Nat.reduceMul, Nat.reduceSub, ↓reduceIte, decide_true, decide_false, Bool.true_eq_false, Bool.false_eq_true, Bool.not_true, Bool.not_false, if_true, if_false, and_true, true_and, memE, celE, w64, Nat.zero_add, Nat.add_zero, Nat.mul_one, putL, and_self, ldn, ext_2_0, ext_2_1]
    exact ext_ansL hx2.ext o2 (by omega) rfl (by omega)
end Go.Proofs.Ytibkaclkaigflaa.Ab
end
