/- slices.DeleteFunc over numbers of one's own, with a test that reads what else is there. -/
import Derived.Test.YtmjnjhdacliieaaAbCy3
import Derived.Test.YtmjnjhdacliieaaAbItems
namespace Go.Proofs.Ytmjnjhdacliieaa.Ab
open Go Go.RowKit
set_option linter.unusedVariables false
set_option linter.unusedSimpArgs false
set_option maxRecDepth 10000

/-- All that lies in m but in one block lies in M, if only to be read. -/
def SeesX (id : Nat) (m M : Mem) : Prop := ∀ (i : Nat) (b : Blk), i ≠ id → m[i]? = some b → b.kd ≠ .dead → ∃ b', M[i]? = some b' ∧ b'.cs = b.cs ∧ b'.kd ≠ .dead
theorem SeesX.of {id : Nat} {m M : Mem} (h : Sees m M) : SeesX id m M := fun i b _ => h i b
theorem SeesX.then {id : Nat} {m M M' : Mem} (h : SeesX id m M) (h' : Sees M M') : SeesX id m M' := fun i b hi hx hd => by
  obtain ⟨y, hy, e, hd2⟩ := h i b hi hx hd
  obtain ⟨z, hz, e2, hd3⟩ := h' i y hy hd2
  exact ⟨z, hz, e2.trans e, hd3⟩
theorem SeesX.set {id : Nat} {m M : Mem} (h : SeesX id m M) (x : Blk) : SeesX id m (M.set id x) := fun i b hi hx hd => by
  obtain ⟨y, hy, e, hd2⟩ := h i b hi hx hd
  exact ⟨y, by rw [List.getElem?_set_ne (Ne.symm hi)]; exact hy, e, hd2⟩
/-- A test that reads all but one block. -/
def TestX (id : Nat) (m : Mem) (fv : Value) (l : List Int) (f : Int → Bool) : Prop := ∃ g cap, fv = .func (.func g) #[] cap ∧ ∀ M x, SeesX id m M → x ∈ l → RC Try.prog g (.int .i64 x :: cap.toList) M (AnsV (.bool (f x)))
theorem TestX.to {id : Nat} {m M : Mem} {fv : Value} {l : List Int} {f : Int → Bool} (h : TestX id m fv l f) (hM : SeesX id m M) : ∃ g cap, fv = .func (.func g) #[] cap ∧ ∀ M' x, Sees M M' → x ∈ l → RC Try.prog g (.int .i64 x :: cap.toList) M' (AnsV (.bool (f x))) := by
  obtain ⟨g, cap, rfl, hg⟩ := h
  exact ⟨g, cap, rfl, fun M' x hs hx => hg M' x (hM.then hs) hx⟩
/-- How many of the first ones the test does not take. -/
def firstN (f : Int → Bool) (l : List Int) : Nat := (l.takeWhile (fun x => !f x)).length
theorem firstN_le (f : Int → Bool) (l : List Int) : firstN f l ≤ l.length := by
  unfold firstN
  exact List.Sublist.length_le (List.takeWhile_sublist _)
theorem firstN_no (f : Int → Bool) : ∀ (l : List Int) (k : Nat), k < firstN f l → f (l.getD k 0) = false := by
  intro l
  induction l with
  | nil => intro k h; simp [firstN] at h
  | cons x l ih =>
    intro k h
    cases hx : f x with
    | true => simp [firstN, List.takeWhile_cons, hx] at h
    | false =>
      cases k with
      | zero => simpa using hx
      | succ k => simp only [List.getD_cons_succ]; exact ih k (by simpa [firstN, List.takeWhile_cons, hx] using h)
theorem firstN_at (f : Int → Bool) : ∀ (l : List Int), firstN f l < l.length → f (l.getD (firstN f l) 0) = true := by
  intro l
  induction l with
  | nil => intro h; simp at h
  | cons x l ih =>
    intro h
    cases hx : f x with
    | true => simp [firstN, List.takeWhile_cons, hx]
    | false =>
      have e : firstN f (x :: l) = firstN f l + 1 := by simp [firstN, List.takeWhile_cons, hx]
      rw [e] at h ⊢
      simp only [List.getD_cons_succ]
      exact ih (by simpa using h)
theorem firstN_eq (f : Int → Bool) (l : List Int) (k : Nat) (hk : k < l.length) (h1 : ∀ j, j < k → f (l.getD j 0) = false) (h2 : f (l.getD k 0) = true) : firstN f l = k := by
  rcases Nat.lt_trichotomy (firstN f l) k with h | h | h
  · have := firstN_at f l (by omega)
    rw [h1 _ h] at this; cases this
  · exact h
  · have := firstN_no f l k h
    rw [h2] at this; cases this
theorem firstN_all (f : Int → Bool) (l : List Int) (h1 : ∀ j, j < l.length → f (l.getD j 0) = false) : firstN f l = l.length := by
  rcases Nat.lt_or_ge (firstN f l) l.length with h | h
  · have := firstN_at f l h
    rw [h1 _ h] at this; cases this
  · have := firstN_le f l; omega
theorem getD_memX {l : List Int} {k : Nat} (hk : k < l.length) : l.getD k 0 ∈ l := by
  rw [List.getD_eq_getElem?_getD, List.getElem?_eq_getElem hk]; exact List.getElem_mem hk
theorem indexS_rc (m : Mem) (v fv : Value) (l : List Int) (f : Int → Bool) (h : IntsA m v l) (hf : ∃ g cap, fv = .func (.func g) #[] cap ∧ ∀ M' x, Sees m M' → x ∈ l → RC Try.prog g (.int .i64 x :: cap.toList) M' (AnsV (.bool (f x)))) :
    RC Try.prog 130 [v, fv] m (AnsV (.int .i64 (if firstN f l < l.length then (firstN f l : Int) else -1))) := by
  refine rc_of_run mixed ok_slices_IndexFunc (by simp) (go_start _ _ _ ?_)
  obtain ⟨g, cap, rfl, hg⟩ := hf
  have hr := h.ro
  have hl := hr.len
  have hbd := hr.bd
  simp (config := {implicitDefEqProofs := false, maxDischargeDepth := 20}) (disch := first | omega | (simp only [lenE]; done) | (simp only [lenE]; omega) | rfl | (simp only [lenE, markR_len]; done) | (simp only [lenE, markR_len]; omega)) only [runE, mapE, listE, initT_5, initT_6, initT_7, initT_8, resV, oneV, binA, unA, reduceCtorEq, Nat.reduceEqDiff, Nat.reduceAdd, Nat.reduceLT, Nat.reduceLeDiff, Nat.reduceMul, Nat.reduceSub, ↓reduceIte, decide_true, decide_false, Bool.true_eq_false, Bool.false_eq_true, Bool.not_true, Bool.not_false, if_true, if_false, and_true, true_and, memE, celE, w64, Nat.zero_add, Nat.add_zero, Nat.mul_one, putL, and_self, ldn, c_slices_IndexFunc, r_slices_IndexFunc, hl]
  refine loop_inv mixed (fun s => ∃ (k : Nat) (M : Mem), k ≤ l.length ∧ (∀ j, j < k → f (l.getD j 0) = false) ∧ s.m = M ∧ Ext m M ∧ s.t 0 = v ∧ s.t 1 = .func (.func g) #[] cap ∧ s.t 7 = .int .i64 (l.length : Int) ∧ s.t 8 = .int .i64 (k : Int)) (fun s => l.length - (intOf (s.t 8)).toNat)
    ⟨0, _, by omega, fun j hj => absurd hj (by omega), rfl, Ext.refl m, rfl, rfl, rfl, rfl⟩ ?_
  rintro s ⟨k, M, hk, hno, tm, hX, t0, t1, t7, t8⟩
  have hM := hX.ints hr
  by_cases hkl : k < l.length
  · have hlt : (k : Int) < l.length := by omega
    have i1 := hM.at_ k hkl
    have i2 := hM.ld k hkl
    simp (config := {implicitDefEqProofs := false, maxDischargeDepth := 20}) (disch := first | omega | (simp only [lenE]; done) | (simp only [lenE]; omega) | rfl | (simp only [lenE, markR_len]; done) | (simp only [lenE, markR_len]; omega)) only [runE, mapE, listE, initT_5, initT_6, initT_7, initT_8, resV, oneV, binA, unA, reduceCtorEq, Nat.reduceEqDiff, Nat.reduceAdd, Nat.reduceLT, Nat.reduceLeDiff, Nat.reduceMul, Nat.reduceSub, ↓reduceIte, decide_true, decide_false, Bool.true_eq_false, Bool.false_eq_true, Bool.not_true, Bool.not_false, if_true, if_false, and_true, true_and, memE, celE, w64, Nat.zero_add, Nat.add_zero, Nat.mul_one, putL, and_self, ldn, tm, t0, t1, t7, t8, hlt, i1, i2, List.append_nil, List.nil_append, List.cons_append]
    refine callH_rc (hg M (l.getD k 0) (Sees.ext hX) (getD_memX hkl)) ?_
    rintro r new ⟨rfl, nrn⟩
    cases hb : f (l.getD k 0) with
    | true =>
      simp (config := {implicitDefEqProofs := false, maxDischargeDepth := 20}) (disch := first | omega | (simp only [lenE]; done) | (simp only [lenE]; omega) | rfl | (simp only [lenE, markR_len]; done) | (simp only [lenE, markR_len]; omega)) only [runE, mapE, listE, initT_5, initT_6, initT_7, initT_8, resV, oneV, binA, unA, reduceCtorEq, Nat.reduceEqDiff, Nat.reduceAdd, Nat.reduceLT, Nat.reduceLeDiff, Nat.reduceMul, Nat.reduceSub, ↓reduceIte, decide_true, decide_false, Bool.true_eq_false, Bool.false_eq_true, Bool.not_true, Bool.not_false, if_true, if_false, and_true, true_and, memE, celE, w64, Nat.zero_add, Nat.add_zero, Nat.mul_one, putL, and_self, ldn, tm, t0, t1, t7, t8]
      refine ext_ansV (hX.app nrn) ?_
      rw [firstN_eq f l k hkl hno hb, if_pos hkl]
    | false =>
      simp (config := {implicitDefEqProofs := false, maxDischargeDepth := 20}) (disch := first | omega | (simp only [lenE]; done) | (simp only [lenE]; omega) | rfl | (simp only [lenE, markR_len]; done) | (simp only [lenE, markR_len]; omega)) only [runE, mapE, listE, initT_5, initT_6, initT_7, initT_8, resV, oneV, binA, unA, reduceCtorEq, Nat.reduceEqDiff, Nat.reduceAdd, Nat.reduceLT, Nat.reduceLeDiff, Nat.reduceMul, Nat.reduceSub, ↓reduceIte, decide_true, decide_false, Bool.true_eq_false, Bool.false_eq_true, Bool.not_true, Bool.not_false, if_true, if_false, and_true, true_and, memE, celE, w64, Nat.zero_add, Nat.add_zero, Nat.mul_one, putL, and_self, ldn, tm, t0, t1, t7, t8]
      refine ⟨⟨k + 1, _, by omega, fun j hj => ?_, rfl, hX.app nrn, by simp⟩, ?_⟩
      · by_cases e : j = k
        · subst e; exact hb
        · exact hno j (by omega)
      · simp [intOf]; omega
  · have hlt : ¬ ((k : Int) < l.length) := by omega
    have e : k = l.length := by omega
    subst e
    simp (config := {implicitDefEqProofs := false, maxDischargeDepth := 20}) (disch := first | omega | (simp only [lenE]; done) | (simp only [lenE]; omega) | rfl | (simp only [lenE, markR_len]; done) | (simp only [lenE, markR_len]; omega)) only [runE, mapE, listE, initT_5, initT_6, initT_7, initT_8, resV, oneV, binA, unA, reduceCtorEq, Nat.reduceEqDiff, Nat.reduceAdd, Nat.reduceLT, Nat.reduceLeDiff, Nat.reduceMul, Nat.reduceSub, ↓reduceIte, decide_true, decide_false, Bool.true_eq_false, Bool.false_eq_true, Bool.not_true, Bool.not_false, if_true, if_false, and_true, true_and, memE, celE, w64, Nat.zero_add, Nat.add_zero, Nat.mul_one, putL, and_self, ldn, tm, t0, t1, t7, t8, hlt]
    refine ext_ansV hX ?_
    rw [firstN_all f l hno, if_neg (by omega)]
theorem filter_take (f : Int → Bool) (l : List Int) (k : Nat) (hk : k < l.length) : (l.take (k + 1)).filter f = (l.take k).filter f ++ (if f (l.getD k 0) then [l.getD k 0] else []) := by
  rw [List.take_add_one, List.filter_append, List.getD_eq_getElem?_getD, List.getElem?_eq_getElem hk]
  simp only [Option.toList, Option.getD_some]
  cases hb : f l[k] <;> simp [hb]
/-- A row whose first part is known. -/
theorem ints_part {m : Mem} {id fl : Nat} {e : TypeId} {cs : List Value} {l : List Int} (h : OwnB m id e cs) (hl : l.length ≤ cs.length) (hb : l.length ≤ 9223372036854775807) (hc : ∀ q, q < l.length → cs[q]? = some (.int .i64 (l.getD q 0))) :
    IntsA m (.slice (some ⟨id, 0, none⟩) l.length fl) l := by
  refine IntsA.of_block hb (fun k hk => by rw [Nat.zero_add, h.rd]; exact hc k hk) ?_
  unfold OwnB at h
  unfold rdl
  rw [h]
  simp only [Nat.zero_add, List.drop_zero]
  rw [if_neg (by simp), if_pos hl]
  congr 1
  apply List.ext_getElem?
  intro i
  by_cases hi : i < l.length
  · rw [List.getElem?_take_of_lt hi, hc i hi, List.getElem?_map, List.getElem?_eq_getElem hi, List.getD_eq_getElem?_getD, List.getElem?_eq_getElem hi]
    rfl
  · rw [List.getElem?_eq_none (by rw [List.length_take]; omega), List.getElem?_eq_none (by rw [List.length_map]; omega)]
/-- A row that is the first part of a block. -/
def PartA (id : Nat) (M : Mem) (r : Value) (l : List Int) : Prop := l.length ≤ 1048576 ∧ ∃ fl cs, r = .slice (some ⟨id, 0, none⟩) l.length fl ∧ OwnB M id 3 cs ∧ l.length ≤ cs.length ∧ ∀ q, q < l.length → cs[q]? = some (.int .i64 (l.getD q 0))
theorem PartA.ints {id : Nat} {M : Mem} {r : Value} {l : List Int} (h : PartA id M r l) : IntsA M r l := by
  obtain ⟨h8, fl, cs, rfl, ho, hl, hc⟩ := h
  exact ints_part ho hl (by omega) hc
theorem PartA.at_ {id : Nat} {M M' : Mem} {r : Value} {l : List Int} (h : PartA id M r l) (he : M'[id]? = M[id]?) : PartA id M' r l := by
  obtain ⟨h8, fl, cs, rfl, ho, hl, hc⟩ := h
  exact ⟨h8, fl, cs, rfl, ho.at_ he, hl, hc⟩
/-- What DeleteFunc leaves: one block changed, and new ones. -/
structure Left (id : Nat) (m M : Mem) : Prop where
  le : m.length ≤ M.length
  same : ∀ i, i < m.length → i ≠ id → M[i]? = m[i]?
  new : ∀ (i : Nat) (k : Blk), m.length ≤ i → M[i]? = some k → k.kd ≠ .ro
  own : (∀ k, m[id]? = some k → k.kd ≠ .ro) → ∀ k, M[id]? = some k → k.kd ≠ .ro
theorem Left.refl (id : Nat) (m : Mem) : Left id m m := ⟨Nat.le_refl _, fun _ _ _ => rfl, fun i k h1 h2 => by have := (List.getElem?_eq_some_iff.1 h2).1; omega, fun h => h⟩
theorem Left.app {id : Nat} {m M new : Mem} (h : Left id m M) (hn : NoRo new) : Left id m (M ++ new) := by
  have := h.le
  refine ⟨by rw [List.length_append]; omega, fun i h1 h2 => by rw [List.getElem?_append_left (by omega)]; exact h.same i h1 h2, fun i k h1 h2 => ?_, fun h0 k h2 => ?_⟩
  · by_cases hi : i < M.length
    · rw [List.getElem?_append_left hi] at h2; exact h.new i k h1 h2
    · rw [List.getElem?_append_right (by omega)] at h2
      exact hn k (List.mem_of_getElem? h2)
  · by_cases hi : id < M.length
    · rw [List.getElem?_append_left hi] at h2; exact h.own h0 k h2
    · rw [List.getElem?_append_right (by omega)] at h2
      exact hn k (List.mem_of_getElem? h2)
theorem Left.set {id : Nat} {m M : Mem} (h : Left id m M) (e : TypeId) (cs : List Value) : Left id m (M.set id ⟨.own, e, cs⟩) := by
  have key : ∀ k, (M.set id ⟨.own, e, cs⟩)[id]? = some k → k.kd ≠ .ro := fun k h2 => by
    rw [List.getElem?_set] at h2
    simp only [if_true] at h2
    split at h2
    · cases h2; simp
    · cases h2
  refine ⟨by rw [List.length_set]; exact h.le, fun i h1 h2 => by rw [List.getElem?_set_ne (Ne.symm h2)]; exact h.same i h1 h2, fun i k h1 h2 => ?_, fun _ => key⟩
  by_cases hi : i = id
  · subst hi; exact key k h2
  · rw [List.getElem?_set_ne (Ne.symm hi)] at h2; exact h.new i k h1 h2
/-- A memory that grew, told block by block. -/
theorem Left.extX {id : Nat} {m A M : Mem} (hX : Ext m A) (h : Left id A M) (hid : m.length ≤ id) : Ext m M := by
  obtain ⟨n0, rfl, h0⟩ := hX
  have hle := h.le
  rw [List.length_append, roM_len] at hle
  have hsame : ∀ i, i < m.length → M[i]? = (roM m)[i]? := fun i hi => by
    rw [h.same i (by rw [List.length_append, roM_len]; omega) (by omega), List.getElem?_append_left (by rw [roM_len]; exact hi)]
  refine ⟨M.drop m.length, ?_, fun b hb => ?_⟩
  · apply List.ext_getElem?
    intro i
    by_cases hi : i < m.length
    · rw [List.getElem?_append_left (by rw [roM_len]; exact hi)]; exact hsame i hi
    · rw [List.getElem?_append_right (by rw [roM_len]; omega), List.getElem?_drop, roM_len]
      congr 1
      omega
  · obtain ⟨j, hj, rfl⟩ := List.mem_iff_getElem.1 hb
    rw [List.length_drop] at hj
    have hat : M[m.length + j]? = some ((M.drop m.length)[j]'(by rw [List.length_drop]; exact hj)) := by
      rw [List.getElem_drop]; exact List.getElem?_eq_getElem (by omega)
    have old : ∀ (i : Nat) (k : Blk), m.length ≤ i → (roM m ++ n0)[i]? = some k → k.kd ≠ .ro := fun i k h1 h2 => by
      rw [List.getElem?_append_right (by rw [roM_len]; omega)] at h2
      exact h0 k (List.mem_of_getElem? h2)
    by_cases h1 : m.length + j < (roM m ++ n0).length
    · by_cases h2 : m.length + j = id
      · rw [h2] at hat
        exact h.own (fun k hk => old id k hid hk) _ hat
      · rw [h.same _ h1 h2] at hat
        exact old _ _ (by omega) hat
    · exact h.new _ _ (by omega) hat
theorem Left.sees {id : Nat} {m M : Mem} (h : Left id m M) : SeesX id m M := fun i b hi hx hd =>
  ⟨b, by rw [h.same i (List.getElem?_eq_some_iff.1 hx).1 hi]; exact hx, rfl, hd⟩
theorem clr_own {M : Mem} {id fl n : Nat} {e : TypeId} {cs : List Value} {off : Nat} (h : OwnB M id e cs) (hn : off + n ≤ cs.length) :
    ∃ cs' : List Value, cs'.length = cs.length ∧ (∀ q, q < off → cs'[q]? = cs[q]?) ∧ ∃ M', clrA M [.int .i64 0] (.slice (some ⟨id, off, none⟩) n fl) = some M' ∧ OwnB M' id e cs' ∧ ∀ m id0, id0 = id → Left id0 m M → Left id0 m M' := by
  by_cases h0 : n = 0
  · subst h0
    exact ⟨cs, rfl, fun q _ => rfl, M, by simp [clrA], h, fun m id0 _ hL => hL⟩
  · have hz : onesB (repL n [.int .i64 0]) = true := by
      rw [repL_one]
      simp [onesB, Value.oneCell']
    have hl : (repL n [Value.int .i64 0]).length = n := by rw [repL_one]; simp
    refine ⟨putL cs off (repL n [.int .i64 0]), putL_len _ _ _, fun q hq => ?_, M.set id ⟨.own, e, putL cs off (repL n [.int .i64 0])⟩, ?_, h.set_self _ _, fun m id0 he hL => by subst he; exact hL.set _ _⟩
    · rw [putL_at _ _ _ _ (by rw [hl]; exact hn), if_neg (by omega)]
    · simp only [clrA, h0, if_false]
      exact h.st (by rw [hl]; exact hn) hz
theorem deleteInts_ac (m : Mem) (id fl : Nat) (fv : Value) (l : List Int) (f : Int → Bool) (h : OwnR m id l) (h8 : l.length ≤ 1048576) (hf : TestX id m fv l f) :
    AC Try.prog 112 [.slice (some ⟨id, 0, none⟩) l.length fl, fv] m fun r m' => Left id m m' ∧ PartA id m' r (l.filter (fun x => !f x)) := by
  refine ac_of_run mixed ok_slices_DeleteFunc (by simp) (go_start _ _ _ ?_)
  obtain ⟨g, cap, rfl, hg⟩ := _root_.id hf
  have hI := h.ints (by omega) fl
  simp (config := {implicitDefEqProofs := false, maxDischargeDepth := 20}) (disch := first | omega | (simp only [lenE]; done) | (simp only [lenE]; omega) | rfl | (simp only [lenE, markR_len]; done) | (simp only [lenE, markR_len]; omega)) only [runE, mapE, listE, initT_5, initT_6, initT_7, initT_8, resV, oneV, binA, unA, reduceCtorEq, Nat.reduceEqDiff, Nat.reduceAdd, Nat.reduceLT, Nat.reduceLeDiff, Nat.reduceMul, Nat.reduceSub, ↓reduceIte, decide_true, decide_false, Bool.true_eq_false, Bool.false_eq_true, Bool.not_true, Bool.not_false, if_true, if_false, and_true, true_and, memE, celE, w64, Nat.zero_add, Nat.add_zero, Nat.mul_one, putL, and_self, ldn, c_slices_DeleteFunc, r_slices_DeleteFunc]
  refine callH_rc (indexS_rc m _ _ l f hI (hf.to (SeesX.of (Sees.refl m)))) ?_
  rintro r new0 ⟨rfl, nr0⟩
  by_cases hfi : firstN f l < l.length
  · rw [if_pos hfi]
    have hne : ((firstN f l : Int) == -1) = false := by rw [beq_eq_false_iff_ne]; omega
    simp (config := {implicitDefEqProofs := false, maxDischargeDepth := 20}) (disch := first | omega | (simp only [lenE]; done) | (simp only [lenE]; omega) | rfl | (simp only [lenE, markR_len]; done) | (simp only [lenE, markR_len]; omega)) only [runE, mapE, listE, initT_5, initT_6, initT_7, initT_8, resV, oneV, binA, unA, reduceCtorEq, Nat.reduceEqDiff, Nat.reduceAdd, Nat.reduceLT, Nat.reduceLeDiff, Nat.reduceMul, Nat.reduceSub, ↓reduceIte, decide_true, decide_false, Bool.true_eq_false, Bool.false_eq_true, Bool.not_true, Bool.not_false, if_true, if_false, and_true, true_and, memE, celE, w64, Nat.zero_add, Nat.add_zero, Nat.mul_one, putL, and_self, ldn, hne]
    have hkeep : (l.take (firstN f l)).filter (fun x => !f x) = l.take (firstN f l) := by
      apply List.filter_eq_self.2
      intro x hx
      obtain ⟨j, hj, rfl⟩ := List.mem_iff_getElem.1 hx
      rw [List.length_take] at hj
      have := firstN_no f l j (by omega)
      rw [List.getD_eq_getElem?_getD, List.getElem?_eq_getElem (by omega)] at this
      simp at this ⊢
      exact this
    have hfst := firstN_at f l hfi
    have hstep0 := filter_take (fun x => !f x) l (firstN f l) hfi
    rw [hfst, hkeep] at hstep0
    simp only [Bool.not_true, Bool.false_eq_true, if_false, List.append_nil] at hstep0
    have hOb : OwnB m id 3 (l.map (Value.int .i64)) := h
    refine loop_inv mixed (fun s => ∃ (j i : Nat) (M : Mem) (cs : List Value), j ≤ l.length ∧ i < j ∧ i = ((l.take j).filter (fun x => !f x)).length ∧ s.m = M ∧ Left id m M ∧ OwnB M id 3 cs ∧ cs.length = l.length ∧
        (∀ q, q < i → cs[q]? = some (.int .i64 (((l.take j).filter (fun x => !f x)).getD q 0))) ∧ (∀ q, j ≤ q → q < l.length → cs[q]? = some (.int .i64 (l.getD q 0))) ∧
        s.t 0 = .slice (some ⟨id, 0, none⟩) l.length fl ∧ s.t 1 = .func (.func g) #[] cap ∧ s.t 5 = .int .i64 (i : Int) ∧ s.t 6 = .int .i64 (j : Int)) (fun s => l.length - (intOf (s.t 6)).toNat)
      ⟨firstN f l + 1, firstN f l, _, _, by omega, by omega, ?_, rfl, (Left.refl id m).app nr0, hOb.ext _, by simp, ?_, ?_, rfl, rfl, rfl, by simp; rfl⟩ ?_
    · rw [hstep0, List.length_take]; omega
    · intro q hq
      rw [hstep0, List.getElem?_map, List.getElem?_eq_getElem (by omega), List.getD_eq_getElem?_getD, List.getElem?_take_of_lt hq, List.getElem?_eq_getElem (by omega)]
      rfl
    · intro q _ hq
      rw [List.getElem?_map, List.getElem?_eq_getElem hq, List.getD_eq_getElem?_getD, List.getElem?_eq_getElem hq]
      rfl
    rintro s ⟨j, i, M, cs, hj, hij, hi, tm, hL, ho, hcl, hpre, hpost, t0, t1, t5, t6⟩
    by_cases hjl : j < l.length
    · have hlt : (j : Int) < l.length := by omega
      have r1 : rdc M id j = some (.int .i64 (l.getD j 0)) := by rw [ho.rd]; exact hpost j (Nat.le_refl _) hjl
      simp (config := {implicitDefEqProofs := false, maxDischargeDepth := 20}) (disch := first | omega | (simp only [lenE]; done) | (simp only [lenE]; omega) | rfl | (simp only [lenE, markR_len]; done) | (simp only [lenE, markR_len]; omega)) only [runE, mapE, listE, initT_5, initT_6, initT_7, initT_8, resV, oneV, binA, unA, reduceCtorEq, Nat.reduceEqDiff, Nat.reduceAdd, Nat.reduceLT, Nat.reduceLeDiff, Nat.reduceMul, Nat.reduceSub, ↓reduceIte, decide_true, decide_false, Bool.true_eq_false, Bool.false_eq_true, Bool.not_true, Bool.not_false, if_true, if_false, and_true, true_and, memE, celE, w64, Nat.zero_add, Nat.add_zero, Nat.mul_one, putL, and_self, ldn, tm, t0, t1, t5, t6, hlt, iadA_in hjl, r1, Nat.mul_one, List.append_nil, List.nil_append, List.cons_append]
      refine callH_rc (hg M (l.getD j 0) hL.sees (getD_memX hjl)) ?_
      rintro r new ⟨rfl, nrn⟩
      have hft := filter_take (fun x => !f x) l j hjl
      cases hb : f (l.getD j 0) with
      | true =>
        rw [hb] at hft
        simp only [Bool.not_true, Bool.false_eq_true, if_false, List.append_nil] at hft
        simp (config := {implicitDefEqProofs := false, maxDischargeDepth := 20}) (disch := first | omega | (simp only [lenE]; done) | (simp only [lenE]; omega) | rfl | (simp only [lenE, markR_len]; done) | (simp only [lenE, markR_len]; omega)) only [runE, mapE, listE, initT_5, initT_6, initT_7, initT_8, resV, oneV, binA, unA, reduceCtorEq, Nat.reduceEqDiff, Nat.reduceAdd, Nat.reduceLT, Nat.reduceLeDiff, Nat.reduceMul, Nat.reduceSub, ↓reduceIte, decide_true, decide_false, Bool.true_eq_false, Bool.false_eq_true, Bool.not_true, Bool.not_false, if_true, if_false, and_true, true_and, memE, celE, w64, Nat.zero_add, Nat.add_zero, Nat.mul_one, putL, and_self, ldn, tm, t0, t1, t5, t6]
        refine ⟨⟨j + 1, i, _, cs, by omega, by omega, by rw [hft]; exact hi, rfl, hL.app nrn, ho.ext _, hcl, fun q hq => by rw [hft]; exact hpre q hq, fun q h1 h2 => hpost q (by omega) h2, rfl, by simp⟩, ?_⟩
        simp [intOf]; omega
      | false =>
        rw [hb] at hft
        simp only [Bool.not_false, if_true] at hft
        have hst := (ho.ext new).st (off := i) (vs := [.int .i64 (l.getD j 0)]) (by simp; omega) rfl
        have hil : i < l.length := by omega
        simp (config := {implicitDefEqProofs := false, maxDischargeDepth := 20}) (disch := first | omega | (simp only [lenE]; done) | (simp only [lenE]; omega) | rfl | (simp only [lenE, markR_len]; done) | (simp only [lenE, markR_len]; omega)) only [runE, mapE, listE, initT_5, initT_6, initT_7, initT_8, resV, oneV, binA, unA, reduceCtorEq, Nat.reduceEqDiff, Nat.reduceAdd, Nat.reduceLT, Nat.reduceLeDiff, Nat.reduceMul, Nat.reduceSub, ↓reduceIte, decide_true, decide_false, Bool.true_eq_false, Bool.false_eq_true, Bool.not_true, Bool.not_false, if_true, if_false, and_true, true_and, memE, celE, w64, Nat.zero_add, Nat.add_zero, Nat.mul_one, putL, and_self, ldn, tm, t0, t1, t5, t6, iadA_in hil, hst, Nat.mul_one]
        refine ⟨⟨j + 1, i + 1, _, cs.set i (.int .i64 (l.getD j 0)), by omega, by omega, ?_, rfl, (hL.app nrn).set _ _, (ho.ext new).set_self _ _, by simp [hcl], fun q hq => ?_, fun q h1 h2 => ?_, by simp, by simp⟩, ?_⟩
        · rw [hft, List.length_append]; simp; omega
        · rw [hft]
          by_cases e : q = i
          · subst e
            rw [List.getElem?_set_self (by omega)]
            generalize l.getD j 0 = y at *
            have ey : ((List.filter (fun x => !f x) (List.take j l)) ++ [y]).getD q 0 = y := by
              rw [hi, List.getD_eq_getElem?_getD]
              simp
            rw [ey]
          · rw [List.getElem?_set_ne (by omega), hpre q (by omega), List.getD_eq_getElem?_getD, List.getD_eq_getElem?_getD, List.getElem?_append_left (by omega)]
        · rw [List.getElem?_set_ne (by omega)]; exact hpost q (by omega) h2
        · simp [intOf]; omega
    · have hlt : ¬ ((j : Int) < l.length) := by omega
      have e : j = l.length := by omega
      subst e
      rw [List.take_length] at hi hpre
      obtain ⟨cs', hcl', hcs', M', hclr, ho', hL'⟩ := clr_own (n := l.length - i) (fl := 0) (off := i) ho (by omega)
      have hLf := hL' m id rfl hL
      have hil : i ≤ l.length := by omega
      have hs1 : slcA 1 (.slice (some ⟨id, 0, none⟩) l.length fl) (some (.int .i64 (i : Int))) none = some (.slice (some ⟨id, i, none⟩) (l.length - i) 0) := by
        simp only [slcA, boundA, Int.toNat_natCast]
        rw [if_pos (by omega)]
        simp [hil]
      have hs2 : slcA 1 (.slice (some ⟨id, 0, none⟩) l.length fl) none (some (.int .i64 (i : Int))) = some (.slice (some ⟨id, 0, none⟩) i fl) := by
        simp only [slcA, boundA, Int.toNat_natCast]
        rw [if_pos (by omega)]
        simp [hil]
      simp (config := {implicitDefEqProofs := false, maxDischargeDepth := 20}) (disch := first | omega | (simp only [lenE]; done) | (simp only [lenE]; omega) | rfl | (simp only [lenE, markR_len]; done) | (simp only [lenE, markR_len]; omega)) only [runE, mapE, listE, initT_5, initT_6, initT_7, initT_8, resV, oneV, binA, unA, reduceCtorEq, Nat.reduceEqDiff, Nat.reduceAdd, Nat.reduceLT, Nat.reduceLeDiff, Nat.reduceMul, Nat.reduceSub, ↓reduceIte, decide_true, decide_false, Bool.true_eq_false, Bool.false_eq_true, Bool.not_true, Bool.not_false, if_true, if_false, and_true, true_and, memE, celE, w64, Nat.zero_add, Nat.add_zero, Nat.mul_one, putL, and_self, ldn, tm, t0, t1, t5, t6, hlt, hs1, hs2, hclr, Option.map_none]
      refine ⟨hLf, ?_⟩
      rw [hi]
      exact ⟨by omega, fl, cs', rfl, ho', by omega, fun q hq => by rw [hcs' q (by omega)]; exact hpre q (by omega)⟩
  · rw [if_neg hfi]
    have e : firstN f l = l.length := by have := firstN_le f l; omega
    simp (config := {implicitDefEqProofs := false, maxDischargeDepth := 20}) (disch := first | omega | (simp only [lenE]; done) | (simp only [lenE]; omega) | rfl | (simp only [lenE, markR_len]; done) | (simp only [lenE, markR_len]; omega)) only [runE, mapE, listE, initT_5, initT_6, initT_7, initT_8, resV, oneV, binA, unA, reduceCtorEq, Nat.reduceEqDiff, Nat.reduceAdd, Nat.reduceLT, Nat.reduceLeDiff, Nat.reduceMul, Nat.reduceSub, ↓reduceIte, decide_true, decide_false, Bool.true_eq_false, Bool.false_eq_true, Bool.not_true, Bool.not_false, if_true, if_false, and_true, true_and, memE, celE, w64, Nat.zero_add, Nat.add_zero, Nat.mul_one, putL, and_self, ldn, show ((-1 : Int) == -1) = true by rfl]
    refine ⟨(Left.refl id m).app nr0, ?_⟩
    have : l.filter (fun x => !f x) = l := by
      apply List.filter_eq_self.2
      intro x hx
      obtain ⟨j, hj, rfl⟩ := List.mem_iff_getElem.1 hx
      have := firstN_no f l j (by omega)
      rw [List.getD_eq_getElem?_getD, List.getElem?_eq_getElem hj] at this
      simp at this ⊢
      exact this
    rw [this]
    have hOb : OwnB m id 3 (l.map (Value.int .i64)) := h
    refine ⟨h8, fl, _, rfl, hOb.ext _, by simp, fun q hq => ?_⟩
    rw [List.getElem?_map, List.getElem?_eq_getElem hq, List.getD_eq_getElem?_getD, List.getElem?_eq_getElem hq]
    rfl
end Go.Proofs.Ytmjnjhdacliieaa.Ab
