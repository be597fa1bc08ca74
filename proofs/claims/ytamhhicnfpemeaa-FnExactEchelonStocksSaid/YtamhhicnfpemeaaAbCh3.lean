/- Chains: stocks of all stages by the program: a range over a function whose body may return. -/
import Derived.Test.YtamhhicnfpemeaaAbCh2
import Derived.Test.YtamhhicnfpemeaaAbIterT
namespace Go.Proofs.Ytamhhicnfpemeaa.Ab
open Go Go.RowKit
set_option linter.unusedVariables false
set_option linter.unusedSimpArgs false

theorem setT_2' (t : Nat → Value) (i j : Nat) (x y : Value) (k : Nat) : setT t [i, j] [x, y] k = if k = j then y else if k = i then x else t k := rfl
theorem range_gen' {P : Program} {n : Nat} {v : Value} {g : Operand} {qs : List Nat} {c d : ACode} {k : Kont} {s : St} (I : St → Prop) (h0 : I s) (h : ∀ s, I s → rangeH P n v g qs c d k s) : rangeH P n v g qs c d k s := h s h0
/-- For right needs the program's test is the model's. -/
theorem stk_stage {need am : List Int} {n : Nat} (hl : need.length = n) (hn : ∀ x ∈ need, 0 ≤ x ∧ x ≤ 120) (hs : sumTo need n ≤ 120) : stkFB need am = stageB am need n := by
  subst hl
  cases hb : stageB am need need.length with
  | true =>
    obtain ⟨h1, h2, h3, h4⟩ := stageB_iff.1 hb
    have e1 : nowK am need am.length = 0 := by unfold nowK; rw [h1]; omega
    have e2 : Go.Proofs.Ytamhhicnfpemeaa.rowB am need.length (sumTo need need.length) = true := by
      refine rowB_iff.2 ⟨fun x hx => ⟨(h2 x hx).1, ?_⟩, h1⟩
      obtain ⟨j, hj⟩ := List.mem_iff_getElem?.1 hx
      have hj2 : j < am.length := (List.getElem?_eq_some_iff.1 hj).1
      have e := sumTo_succ hj
      have m1 := sumTo_mono (fun x hx => (h2 x hx).1) (j := j + 1) (k := am.length) (by omega)
      have m0 := (sumTo_bound (by omega) h2 j).1
      rw [h1] at m1
      omega
    have e3 : (stocksL am need).any (fun x => decide (x < 0)) = false := by
      rw [List.any_eq_false]
      intro x hx
      unfold stocksL stocksTo at hx
      obtain ⟨t, ht, rfl⟩ := List.mem_map.1 hx
      have := h3 t (by have := List.mem_range.1 ht; omega)
      simp; omega
    unfold stkFB balFB
    rw [e2, e3, e1]; rfl
  | false =>
    cases hq : stkFB need am with
    | false => rfl
    | true =>
      unfold stkFB balFB at hq
      simp only [Bool.and_eq_true, rowB_iff, decide_eq_true_eq, Bool.not_eq_true'] at hq
      obtain ⟨⟨⟨h1, h2⟩, h3⟩, h4⟩ := hq
      rw [List.any_eq_false] at h4
      have : StageP am need need.length := ⟨h2, fun x hx => by have := h1 x hx; omega, fun t ht => by
        have := h4 (stk am need t) (by unfold stocksL stocksTo; exact List.mem_map.2 ⟨t, List.mem_range.2 (by omega), rfl⟩)
        simpa using this, by unfold nowK at h3; rw [h2] at h3; omega⟩
      rw [stageB_iff.2 this] at hb
      cases hb
/-- What must come out behind k rounds. -/
def needAt (c : Ch) (T : List (List Int)) (k : Nat) : List Int := if k = 0 then c.need else T.getD (T.length - k) []
theorem needAt_out (c : Ch) (T : List (List Int)) {k : Nat} (hk : k < T.length) : outR c.need T (T.length - 1 - k) = needAt c T k := by
  unfold outR needAt
  by_cases e : k = 0
  · subst e
    rw [if_neg (by omega), if_pos rfl]
  · rw [if_pos (by omega), if_neg e]
    congr 1; omega
theorem needAt_ok {c : Ch} {T : List (List Int)} (hg : GoodCh c) {k : Nat} (hk : k ≤ T.length) (hall : ∀ j, T.length ≤ j + k → j < T.length → StageP (T.getD j []) (outR c.need T j) c.need.length) :
    (needAt c T k).length = c.need.length ∧ (∀ x ∈ needAt c T k, 0 ≤ x ∧ x ≤ 120) ∧ sumTo (needAt c T k) c.need.length ≤ 120 := by
  induction k with
  | zero =>
    have := sumTo_in hg.need c.need.length (Nat.le_refl _)
    have := hg.n6
    unfold needAt
    rw [if_pos rfl]
    exact ⟨rfl, fun x hx => by have := hg.need x hx; omega, by omega⟩
  | succ k ih =>
    obtain ⟨h1, h2, h3⟩ := ih (by omega) fun j hj hl => hall j (by omega) hl
    have hp := hall (T.length - (k + 1)) (by omega) (by omega)
    have e := needAt_out c T (k := k) (by omega)
    rw [show T.length - 1 - k = T.length - (k + 1) by omega] at e
    rw [e] at hp
    unfold needAt
    rw [if_neg (by omega)]
    exact ⟨hp.len, hp.bd, by rw [hp.all]; exact h3⟩
/-- A table of which the last k rows are there. -/
structure PT (N k lo lb : Nat) (W : Nat → List Int) (M : Mem) (id : Nat) (R F : Nat → Nat) : Prop where
  cells : OwnB M id 24 ((List.range N).map fun j => if j + k < N then .slice none 0 0 else .slice (some ⟨R j, 0, none⟩) (W j).length (F j))
  lid : lo ≤ id ∧ id < lb
  rows : ∀ j, N ≤ j + k → j < N → lb ≤ R j ∧ R j < M.length ∧ OwnR M (R j) (W j)
  inj : ∀ i j, N ≤ i + k → i < N → N ≤ j + k → j < N → R i = R j → i = j
theorem PT.next {N k lo lb : Nat} {W : Nat → List Int} {M M' : Mem} {id rid fl : Nat} {R F : Nat → Nat} (h : PT N k lo lb W M id R F) (hb : lb ≤ M.length) (hk : k < N) (hl : M.length ≤ M'.length) (hs : ∀ i, lb ≤ i → i < M.length → M'[i]? = M[i]?) (hr : M.length ≤ rid) (hr2 : rid < M'.length) (ho : OwnR M' rid (W (N - 1 - k)))
    (hc : OwnB M' id 24 (((List.range N).map fun j => if j + k < N then (.slice none 0 0 : Value) else .slice (some ⟨R j, 0, none⟩) (W j).length (F j)).set (N - 1 - k) (.slice (some ⟨rid, 0, none⟩) (W (N - 1 - k)).length fl))) :
    PT N (k + 1) lo lb W M' id (fun j => if j + k + 1 = N then rid else R j) (fun j => if j + k + 1 = N then fl else F j) := by
  have hid := h.cells.lt
  refine ⟨?_, h.lid, fun j h1 h2 => ?_, fun i j h1 h2 h3 h4 he => ?_⟩
  · have : ((List.range N).map fun j => if j + (k + 1) < N then (.slice none 0 0 : Value) else .slice (some ⟨if j + k + 1 = N then rid else R j, 0, none⟩) (W j).length (if j + k + 1 = N then fl else F j)) = (((List.range N).map fun j => if j + k < N then (.slice none 0 0 : Value) else .slice (some ⟨R j, 0, none⟩) (W j).length (F j)).set (N - 1 - k) (.slice (some ⟨rid, 0, none⟩) (W (N - 1 - k)).length fl)) := by
      apply List.ext_getElem?
      intro i
      by_cases hi : i < N
      · by_cases e : i = N - 1 - k
        · have e2 : i + k + 1 = N := by omega
          rw [List.getElem?_set, if_pos (by omega)]
          simp only [List.length_map, List.length_range, show N - 1 - k < N by omega, if_true]
          simp [hi, e2, show ¬ (i + (k + 1) < N) by omega]
          rw [e]
        · rw [List.getElem?_set_ne (by omega)]
          simp only [List.getElem?_map, List.getElem?_range hi, Option.map_some]
          congr 1
          by_cases e3 : i + (k + 1) < N
          · rw [if_pos e3, if_pos (by omega)]
          · rw [if_neg e3, if_neg (by omega), if_neg (by omega), if_neg (by omega)]
      · rw [List.getElem?_eq_none (by simp; omega), List.getElem?_eq_none (by simp; omega)]
    rw [this]; exact hc
  · by_cases e : j + k + 1 = N
    · simp only [e, if_true]
      have ej : j = N - 1 - k := by omega
      subst ej
      exact ⟨by omega, hr2, ho⟩
    · simp only [e, if_false]
      obtain ⟨a, b, c⟩ := h.rows j (by omega) h2
      exact ⟨a, by omega, c.at_ (hs _ a b)⟩
  · by_cases e1 : i + k + 1 = N <;> by_cases e2 : j + k + 1 = N
    · omega
    · simp only [e1, e2, if_true, if_false] at he
      have := (h.rows j (by omega) h4).2.1
      omega
    · simp only [e1, e2, if_true, if_false] at he
      have := (h.rows i (by omega) h2).2.1
      omega
    · simp only [e1, e2, if_false] at he
      exact h.inj i j (by omega) h2 (by omega) h4 he
theorem PT.full {N lo lb : Nat} {S : List (List Int)} {W : Nat → List Int} {M : Mem} {id fl : Nat} {R F : Nat → Nat} (h : PT N N lo lb W M id R F) (hl : S.length = N) (hW : ∀ j, j < N → S.getD j [] = W j) (h1 : N ≤ 1048576) (h2 : tsz S S.length ≤ 1048576) {M' : Mem} (hs : ∀ i, id ≤ i → i < M.length → M'[i]? = M[i]?) : TabO S lo M.length M' (.slice (some ⟨id, 0, none⟩) N fl) := by
  subst hl
  have hid := h.cells.lt
  have hlid := h.lid.1
  have hlb := h.lid.2
  refine ⟨h1, h2, id, fl, R, F, rfl, hlid, hid, ?_, fun j hj => ?_, fun i j hi hj => h.inj i j (by omega) hi (by omega) hj⟩
  · have : rowsC S R F = ((List.range S.length).map fun j => if j + S.length < S.length then (.slice none 0 0 : Value) else .slice (some ⟨R j, 0, none⟩) (W j).length (F j)) := by
      unfold rowsC
      apply List.map_congr_left
      intro j hj
      rw [if_neg (by omega), hW j (List.mem_range.1 hj)]
    rw [this]
    exact h.cells.at_ (hs _ (Nat.le_refl _) hid)
  · obtain ⟨a, b, c⟩ := h.rows j (by omega) hj
    rw [hW j hj]
    exact ⟨by omega, b, c.at_ (hs _ (by omega) b)⟩
end Go.Proofs.Ytamhhicnfpemeaa.Ab
