/- Shelves as lists of integers: shelves, issues, what they leave. -/
import Derived.Test.YtihjcjhnkpkomaaLotMath
namespace Go.Proofs.Ytihjcjhnkpkomaa
set_option linter.unusedVariables false

/-- A shelf: the life, arrivals, needs, charges. -/
structure Sh where
  life : Int
  arr : List Int
  need : List Int
  waste : Int
  lost : Int
def Sh.good (s : Sh) : Bool := (decide (1 ≤ s.life) && decide (s.life ≤ 8)) && decide (s.need.length ≤ 8) && rowB s.need s.need.length 20 && rowB s.arr s.need.length 20 && ((decide (0 ≤ s.waste) && decide (s.waste ≤ 20)) && (decide (0 ≤ s.lost) && decide (s.lost ≤ 20)))
structure GoodSh (s : Sh) : Prop where
  l1 : 1 ≤ s.life
  l8 : s.life ≤ 8
  n8 : s.need.length ≤ 8
  need : ∀ x ∈ s.need, 0 ≤ x ∧ x ≤ 20
  arr : ∀ x ∈ s.arr, 0 ≤ x ∧ x ≤ 20
  la : s.arr.length = s.need.length
  w : 0 ≤ s.waste ∧ s.waste ≤ 20
  l : 0 ≤ s.lost ∧ s.lost ≤ 20
theorem goodSh_iff {s : Sh} : s.good = true ↔ GoodSh s := by
  simp only [Sh.good, Bool.and_eq_true, decide_eq_true_eq, rowB_iff]
  constructor
  · rintro ⟨⟨⟨⟨⟨h1, h2⟩, h3⟩, h4, _⟩, h5, h6⟩, h7, h8⟩
    exact ⟨h1, h2, h3, h4, h5, h6, h7, h8⟩
  · rintro ⟨h1, h2, h3, h4, h5, h6, h7, h8⟩
    exact ⟨⟨⟨⟨⟨h1, h2⟩, h3⟩, h4, by trivial⟩, h5, h6⟩, h7, h8⟩
/-- Units that arrived in one period can be used in another one. -/
def usB (life : Int) (f t : Nat) : Bool := decide ((f : Int) ≤ t) && decide ((t : Int) < f + life)
/-- The sum of a column up to a row. -/
def colT (T : List (List Int)) (f : Nat) : Nat → Int
  | 0 => 0
  | t + 1 => colT T f t + (T.getD t []).getD f 0
/-- A row of an issue, apart from what arrives. -/
def irow (s : Sh) (T : List (List Int)) (t : Nat) : Prop :=
  (T.getD t []).length = s.need.length ∧ (∀ f, f < s.need.length → 0 ≤ (T.getD t []).getD f 0 ∧ (0 < (T.getD t []).getD f 0 → usB s.life f t = true)) ∧ sumTo (T.getD t []) s.need.length ≤ s.need.getD t 0
/-- An issue's first rows. -/
def irows (s : Sh) (T : List (List Int)) (k : Nat) : Prop :=
  (∀ t, t < k → irow s T t) ∧ ∀ f, f < s.need.length → colT T f k ≤ s.arr.getD f 0
instance (s : Sh) (T : List (List Int)) (t : Nat) : Decidable (irow s T t) := by unfold irow; infer_instance
instance (s : Sh) (T : List (List Int)) (k : Nat) : Decidable (irows s T k) := by unfold irows; infer_instance
def Sh.issB (s : Sh) (T : List (List Int)) : Bool := decide (T.length = s.need.length ∧ irows s T s.need.length)
def two9 (s : Sh) (T : List (List Int)) : Bool := s.good && s.issB T
theorem two9_iff {s : Sh} {T : List (List Int)} : two9 s T = true ↔ GoodSh s ∧ T.length = s.need.length ∧ irows s T s.need.length := by
  simp only [two9, Sh.issB, Bool.and_eq_true, decide_eq_true_eq, goodSh_iff]
theorem sumTo_s9 {l : List Int} {k : Nat} (h : k < l.length) : sumTo l (k + 1) = sumTo l k + l.getD k 0 := by
  rw [sumTo_succ (List.getElem?_eq_getElem h), List.getD_eq_getElem?_getD, List.getElem?_eq_getElem h, Option.getD_some]
theorem setD9 {l : List Int} {i j : Nat} {x : Int} (h : i < l.length) : (l.set i x).getD j 0 = if j = i then x else l.getD j 0 := by
  by_cases e : j = i
  · subst e
    rw [if_pos rfl, List.getD_eq_getElem?_getD, List.getElem?_set_self h, Option.getD_some]
  · rw [if_neg e, List.getD_eq_getElem?_getD, List.getElem?_set_ne (Ne.symm e), ← List.getD_eq_getElem?_getD]
theorem mapD9 {n i : Nat} {f : Nat → Int} (h : i < n) : ((List.range n).map f).getD i 0 = f i := by
  simp [List.getD_eq_getElem?_getD, h]
theorem extD9 {a b : List Int} {n : Nat} (h1 : a.length = n) (h2 : b.length = n) (h : ∀ i, i < n → a.getD i 0 = b.getD i 0) : a = b := by
  apply List.ext_getElem (by omega)
  intro i hi hj
  have := h i (by omega)
  rw [List.getD_eq_getElem?_getD, List.getD_eq_getElem?_getD, List.getElem?_eq_getElem hi, List.getElem?_eq_getElem hj] at this
  simpa using this
theorem memD9 {l : List Int} {P : Int → Prop} (h : ∀ x ∈ l, P x) {k : Nat} (hk : k < l.length) : P (l.getD k 0) := by
  rw [List.getD_eq_getElem?_getD, List.getElem?_eq_getElem hk, Option.getD_some]
  exact h _ (List.getElem_mem hk)
/-- What the first k rows leave of the arrivals and of the needs. -/
def leftArr (s : Sh) (T : List (List Int)) (k : Nat) : List Int := (List.range s.need.length).map fun f => s.arr.getD f 0 - colT T f k
def leftNeed (s : Sh) (T : List (List Int)) (k : Nat) : List Int := (List.range s.need.length).map fun r => s.need.getD r 0 - if r < k then sumTo (T.getD r []) s.need.length else 0
/-- How many units a use can have. -/
def most9 (life : Int) (A N : List Int) (t f : Nat) : Int := if usB life f t then min (A.getD f 0) (N.getD t 0) else 0
/-- What is left while row t is at place j. -/
structure LeftAt (s : Sh) (T : List (List Int)) (t j : Nat) (A N : List Int) : Prop where
  la : A.length = s.need.length
  ln : N.length = s.need.length
  a : ∀ f, f < s.need.length → A.getD f 0 = s.arr.getD f 0 - colT T f t - if f < j then (T.getD t []).getD f 0 else 0
  n : ∀ r, r < s.need.length → N.getD r 0 = s.need.getD r 0 - if r < t then sumTo (T.getD r []) s.need.length else if r = t then sumTo (T.getD t []) j else 0
  rows : ∀ r, r < t → irow s T r
  len : 0 < j → (T.getD t []).length = s.need.length
  pos : ∀ f, f < j → 0 ≤ (T.getD t []).getD f 0 ∧ (0 < (T.getD t []).getD f 0 → usB s.life f t = true)
  a0 : ∀ f, f < s.need.length → 0 ≤ A.getD f 0 ∧ A.getD f 0 ≤ 20
  n0 : ∀ r, r < s.need.length → 0 ≤ N.getD r 0 ∧ N.getD r 0 ≤ 20
theorem LeftAt.zero {s : Sh} {T : List (List Int)} (h : GoodSh s) : LeftAt s T 0 0 s.arr s.need :=
  ⟨h.la, rfl, fun f hf => by simp [colT], fun r hr => by simp [sumTo], fun r hr => absurd hr (by omega), fun h => absurd h (by omega), fun f hf => absurd hf (by omega),
    fun f hf => memD9 h.arr (by rw [h.la]; exact hf), fun r hr => memD9 h.need hr⟩
theorem LeftAt.next {s : Sh} {T : List (List Int)} {t j : Nat} {A N : List Int} (h : LeftAt s T t j A N) (hj : j < s.need.length) (ht : t < s.need.length) (hl : (T.getD t []).length = s.need.length)
    (h0 : 0 ≤ (T.getD t []).getD j 0) (h1 : (T.getD t []).getD j 0 ≤ most9 s.life A N t j) :
    LeftAt s T t (j + 1) (A.set j (A.getD j 0 - (T.getD t []).getD j 0)) (N.set t (N.getD t 0 - (T.getD t []).getD j 0)) := by
  have la := h.la
  have ln := h.ln
  have hb : (T.getD t []).getD j 0 ≤ A.getD j 0 ∧ (T.getD t []).getD j 0 ≤ N.getD t 0 ∧ (0 < (T.getD t []).getD j 0 → usB s.life j t = true) := by
    have ha := h.a0 j hj
    have hn := h.n0 t ht
    unfold most9 at h1
    cases hu : usB s.life j t with
    | true => rw [hu, if_pos rfl] at h1; exact ⟨by omega, by omega, fun _ => rfl⟩
    | false => rw [hu] at h1; simp only [Bool.false_eq_true, if_false] at h1; exact ⟨by omega, by omega, fun h => absurd h (by omega)⟩
  refine ⟨by rw [List.length_set]; exact la, by rw [List.length_set]; exact ln, fun f hf => ?_, fun r hr => ?_, h.rows, fun _ => hl, fun f hf => ?_, fun f hf => ?_, fun r hr => ?_⟩
  · rw [setD9 (by omega)]
    have := h.a f hf
    by_cases e : f = j
    · subst e
      rw [if_pos rfl, if_pos (by omega), this, if_neg (by omega)]; omega
    · rw [if_neg e, this]
      by_cases e2 : f < j
      · rw [if_pos e2, if_pos (by omega)]
      · rw [if_neg e2, if_neg (by omega)]
  · rw [setD9 (by omega)]
    have := h.n r hr
    by_cases e : r = t
    · subst e
      rw [if_pos rfl, if_neg (by omega), if_pos rfl, this, if_neg (by omega), if_pos rfl, sumTo_s9 (by omega)]; omega
    · rw [if_neg e, this, if_neg (c := r = t) e, if_neg (c := r = t) e]
  · by_cases e : f = j
    · subst e; exact ⟨h0, hb.2.2⟩
    · exact h.pos f (by omega)
  · rw [setD9 (by omega)]
    by_cases e : f = j
    · rw [if_pos e]; have := h.a0 j hj; omega
    · rw [if_neg e]; exact h.a0 f hf
  · rw [setD9 (by omega)]
    by_cases e : r = t
    · rw [if_pos e]; have := h.n0 t ht; omega
    · rw [if_neg e]; exact h.n0 r hr
theorem LeftAt.row {s : Sh} {T : List (List Int)} {t : Nat} {A N : List Int} (h : LeftAt s T t s.need.length A N) (ht : t < s.need.length) (hl : (T.getD t []).length = s.need.length) : LeftAt s T (t + 1) 0 A N := by
  refine ⟨h.la, h.ln, fun f hf => ?_, fun r hr => ?_, fun r hr => ?_, fun h => absurd h (by omega), fun f hf => absurd hf (by omega), h.a0, h.n0⟩
  · rw [h.a f hf, if_pos hf, if_neg (by omega)]
    simp only [colT]; omega
  · rw [h.n r hr]
    by_cases e : r < t
    · rw [if_pos e, if_pos (by omega)]
    · by_cases e2 : r = t
      · subst e2; rw [if_neg e, if_pos rfl, if_pos (by omega)]
      · rw [if_neg e, if_neg e2, if_neg (by omega)]
        by_cases e3 : r = t + 1
        · rw [if_pos e3]; simp [sumTo]
        · rw [if_neg e3]
  · by_cases e : r = t
    · subst e
      refine ⟨hl, h.pos, ?_⟩
      have := h.n r ht
      rw [if_neg (by omega), if_pos rfl] at this
      have := h.n0 r ht
      omega
    · exact h.rows r (by omega)
theorem col_mono {s : Sh} {T : List (List Int)} {k f : Nat} (h : ∀ t, t < k → irow s T t) (hf : f < s.need.length) {i j : Nat} (hij : i ≤ j) (hj : j ≤ k) : colT T f i ≤ colT T f j := by
  induction j with
  | zero => obtain rfl : i = 0 := by omega
            exact Int.le_refl _
  | succ j ih =>
    by_cases e : i = j + 1
    · subst e; exact Int.le_refl _
    · have := ih (by omega) (by omega)
      have := ((h j (by omega)).2.1 f hf).1
      simp only [colT]; omega
theorem row_mono {s : Sh} {T : List (List Int)} {t : Nat} (h : irow s T t) {j : Nat} (hj : j ≤ s.need.length) : sumTo (T.getD t []) j ≤ sumTo (T.getD t []) s.need.length := by
  refine sumTo_mono (fun x hx => ?_) hj
  obtain ⟨k, hk⟩ := List.mem_iff_getElem?.1 hx
  have hk2 : k < (T.getD t []).length := (List.getElem?_eq_some_iff.1 hk).1
  have := (h.2.1 k (by rw [← h.1]; exact hk2)).1
  rw [getD_at hk] at this
  exact this
theorem LeftAt.bad {s : Sh} {T : List (List Int)} {t j k : Nat} {A N : List Int} (h : LeftAt s T t j A N) (hj : j < s.need.length) (ht : t < s.need.length) (hk : t < k) (hl : (T.getD t []).length = s.need.length)
    (hb : ¬ (0 ≤ (T.getD t []).getD j 0 ∧ (T.getD t []).getD j 0 ≤ most9 s.life A N t j)) : ¬ irows s T k := by
  rintro ⟨hr, hc⟩
  apply hb
  have h1 := hr t hk
  refine ⟨(h1.2.1 j hj).1, ?_⟩
  have p0 := (h1.2.1 j hj).1
  unfold most9
  have c1 := col_mono hr hj (i := t + 1) (j := k) (by omega) (Nat.le_refl _)
  have c2 := hc j hj
  simp only [colT] at c1
  have c3 := h.a j hj
  rw [if_neg (by omega)] at c3
  have r1 := row_mono h1 (j := j + 1) (by omega)
  rw [sumTo_s9 (by omega)] at r1
  have r2 := h1.2.2
  have r3 := h.n t ht
  rw [if_neg (by omega), if_pos rfl] at r3
  cases hu : usB s.life j t with
  | true => rw [if_pos rfl]; omega
  | false =>
    rw [if_neg (by simp)]
    rcases Int.lt_or_le 0 ((T.getD t []).getD j 0) with e | e
    · have := (h1.2.1 j hj).2 e; rw [hu] at this; cases this
    · omega
theorem bad_len {s : Sh} {T : List (List Int)} {t k : Nat} (hk : t < k) (hl : (T.getD t []).length ≠ s.need.length) : ¬ irows s T k := fun h => hl (h.1 t hk).1
theorem LeftAt.done {s : Sh} {T : List (List Int)} {k : Nat} {A N : List Int} (h : LeftAt s T k 0 A N) : irows s T k ∧ A = leftArr s T k ∧ N = leftNeed s T k := by
  refine ⟨⟨h.rows, fun f hf => ?_⟩, extD9 h.la (by simp [leftArr]) fun f hf => ?_, extD9 h.ln (by simp [leftNeed]) fun r hr => ?_⟩
  · have := h.a f hf
    rw [if_neg (by omega)] at this
    have := h.a0 f hf
    omega
  · rw [h.a f hf, if_neg (by omega), leftArr, mapD9 hf]; omega
  · rw [h.n r hr, leftNeed, mapD9 hr]
    by_cases e : r < k
    · rw [if_pos e, if_pos e]
    · rw [if_neg e, if_neg e]
      by_cases e2 : r = k
      · rw [if_pos e2]; simp [sumTo]
      · rw [if_neg e2]
/-- What an issue leaves. -/
theorem left_bd {s : Sh} {T : List (List Int)} {k : Nat} (hg : GoodSh s) (h : irows s T k) : (∀ x ∈ leftArr s T k, 0 ≤ x ∧ x ≤ 20) ∧ (∀ x ∈ leftNeed s T k, 0 ≤ x ∧ x ≤ 20) := by
  constructor
  · intro x hx
    obtain ⟨f, hf, rfl⟩ := List.mem_map.1 hx
    have hf := List.mem_range.1 hf
    have h1 := h.2 f hf
    have h2 := memD9 hg.arr (k := f) (by rw [hg.la]; exact hf)
    have h3 := col_mono h.1 hf (i := 0) (j := k) (by omega) (Nat.le_refl _)
    simp only [colT] at h3
    omega
  · intro x hx
    obtain ⟨r, hr, rfl⟩ := List.mem_map.1 hx
    have hr := List.mem_range.1 hr
    have h2 := memD9 hg.need (k := r) hr
    by_cases e : r < k
    · rw [if_pos e]
      have h1 := h.1 r e
      have h3 := row_mono h1 (j := 0) (by omega)
      rw [sumTo_zero] at h3
      have := h1.2.2
      omega
    · rw [if_neg e]; omega
/-- A row as the model tests it. -/
theorem irow_iff {s : Sh} {T : List (List Int)} {t : Nat} (hg : GoodSh s) (ht : t < s.need.length) : irow s T t ↔ rowB (T.getD t []) s.need.length 20 = true ∧ sumTo (T.getD t []) (T.getD t []).length ≤ s.need.getD t 0 ∧ ∀ f, f < s.need.length → 0 < (T.getD t []).getD f 0 → usB s.life f t = true := by
  have hn := memD9 hg.need ht
  rw [rowB_iff]
  constructor
  · intro h
    refine ⟨⟨fun x hx => ?_, h.1⟩, by rw [h.1]; exact h.2.2, fun f hf => (h.2.1 f hf).2⟩
    obtain ⟨k, hk⟩ := List.mem_iff_getElem?.1 hx
    have hk2 : k < (T.getD t []).length := (List.getElem?_eq_some_iff.1 hk).1
    have hk3 : k < s.need.length := by rw [← h.1]; exact hk2
    have r1 := row_mono h (j := k + 1) (by omega)
    rw [sumTo_s9 hk2] at r1
    have r0 : 0 ≤ sumTo (T.getD t []) k := by
      have : sumTo (T.getD t []) 0 ≤ sumTo (T.getD t []) k := by
        refine sumTo_mono (fun y hy => ?_) (Nat.zero_le _)
        obtain ⟨q, hq⟩ := List.mem_iff_getElem?.1 hy
        have hq2 : q < (T.getD t []).length := (List.getElem?_eq_some_iff.1 hq).1
        have := (h.2.1 q (by rw [← h.1]; exact hq2)).1
        rw [getD_at hq] at this
        exact this
      rwa [sumTo_zero] at this
    have := (h.2.1 k hk3).1
    have := h.2.2
    have e := getD_at hk
    omega
  · rintro ⟨⟨h1, h2⟩, h3, h4⟩
    refine ⟨h2, fun f hf => ⟨(memD9 h1 (by rw [h2]; exact hf)).1, h4 f hf⟩, ?_⟩
    rw [← h2]; exact h3
end Go.Proofs.Ytihjcjhnkpkomaa
