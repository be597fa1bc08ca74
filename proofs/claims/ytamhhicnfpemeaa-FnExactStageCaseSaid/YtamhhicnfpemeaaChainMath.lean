/- Chains as lists of integers: chains, what goes out of each stage, chain plans. -/
import Derived.Test.YtamhhicnfpemeaaLotMath
namespace Go.Proofs.Ytamhhicnfpemeaa
set_option linter.unusedVariables false

/-- A chain: needs, setups and holds. -/
structure Ch where
  need : List Int
  setup : List Int
  hold : List Int
/-- No number is less than the one before. -/
def sortB : List Int → Bool
  | [] => true
  | [_] => true
  | a :: b :: l => decide (a ≤ b) && sortB (b :: l)
theorem sortB_iff {l : List Int} : sortB l = true ↔ ∀ i, i + 1 < l.length → l.getD i 0 ≤ l.getD (i + 1) 0 := by
  induction l with
  | nil => simp [sortB]
  | cons a l ih =>
    cases l with
    | nil => simp [sortB]
    | cons b l =>
      simp only [sortB, Bool.and_eq_true, decide_eq_true_eq, ih]
      constructor
      · rintro ⟨h1, h2⟩ i hi
        cases i with
        | zero => exact h1
        | succ i =>
          have := h2 i (by simpa using hi)
          simpa using this
      · intro h
        refine ⟨h 0 (by simp), fun i hi => ?_⟩
        have := h (i + 1) (by simpa using hi)
        simpa using this
def Ch.good (c : Ch) : Bool := decide (c.need.length ≤ 6) && rowB c.need c.need.length 20 && (decide (1 ≤ c.setup.length) && decide (c.setup.length ≤ 3)) && rowB c.setup c.setup.length 99 && rowB c.hold c.setup.length 9 && sortB c.hold
structure GoodCh (c : Ch) : Prop where
  n6 : c.need.length ≤ 6
  need : ∀ x ∈ c.need, 0 ≤ x ∧ x ≤ 20
  s1 : 1 ≤ c.setup.length
  s3 : c.setup.length ≤ 3
  setup : ∀ x ∈ c.setup, 0 ≤ x ∧ x ≤ 99
  hold : ∀ x ∈ c.hold, 0 ≤ x ∧ x ≤ 9
  lh : c.hold.length = c.setup.length
  sorted : ∀ i, i + 1 < c.hold.length → c.hold.getD i 0 ≤ c.hold.getD (i + 1) 0
theorem goodCh_iff {c : Ch} : c.good = true ↔ GoodCh c := by
  simp only [Ch.good, Bool.and_eq_true, decide_eq_true_eq, rowB_iff, sortB_iff]
  constructor
  · rintro ⟨⟨⟨⟨⟨h1, h2, _⟩, h3, h4⟩, h5, _⟩, h6, h7⟩, h8⟩
    exact ⟨h1, h2, h3, h4, h5, h6, h7, h8⟩
  · rintro ⟨h1, h2, h3, h4, h5, h6, h7, h8⟩
    exact ⟨⟨⟨⟨⟨h1, h2, by trivial⟩, h3, h4⟩, h5, by trivial⟩, h6, h7⟩, h8⟩
/-- The echelon hold of a stage. -/
def Ch.ech (c : Ch) (s : Nat) : Int := if s = 0 then c.hold.getD 0 0 else c.hold.getD s 0 - c.hold.getD (s - 1) 0
theorem GoodCh.ech {c : Ch} (h : GoodCh c) {s : Nat} (hs : s < c.setup.length) : 0 ≤ c.ech s ∧ c.ech s ≤ 9 := by
  have lh := h.lh
  have b := fun k => getD_bound (m := 9) (by omega) h.hold k
  unfold Ch.ech
  by_cases e : s = 0
  · rw [if_pos e]; exact b 0
  · rw [if_neg e]
    have h1 := h.sorted (s - 1) (by omega)
    rw [Nat.sub_add_cancel (by omega)] at h1
    have := b s
    have := b (s - 1)
    omega
/-- The echelon holds. -/
def Ch.echs (c : Ch) : List Int := (List.range c.hold.length).map c.ech
/-- A case with the same setup and hold in each period. -/
def evenC (need : List Int) (setup hold : Int) : Cs := ⟨need, List.replicate need.length setup, List.replicate need.length 0, List.replicate need.length hold⟩
/-- What goes out of a stage. -/
def outR (need : List Int) (T : List (List Int)) (s : Nat) : List Int := if s + 1 < T.length then T.getD (s + 1) [] else need
/-- The stocks of all stages. -/
def stocksT (need : List Int) (T : List (List Int)) : List (List Int) := (List.range T.length).map fun s => stocksL (T.getD s []) (outR need T s)
theorem stocksT_len (need : List Int) (T : List (List Int)) : (stocksT need T).length = T.length := by simp [stocksT]
theorem stocksT_at {need : List Int} {T : List (List Int)} {s : Nat} (h : s < T.length) : (stocksT need T).getD s [] = stocksL (T.getD s []) (outR need T s) := by
  simp [stocksT, List.getD_eq_getElem?_getD, h]
/-- A stage's amounts for what goes out of it. -/
def stageB (am out : List Int) (n : Nat) : Bool := rowB am n 120 && (stocksL am out).all (fun x => decide (0 ≤ x)) && decide (sumTo am n = sumTo out n)
structure StageP (am out : List Int) (n : Nat) : Prop where
  len : am.length = n
  bd : ∀ x ∈ am, 0 ≤ x ∧ x ≤ 120
  stk : ∀ t, t < n → 0 ≤ stk am out t
  all : sumTo am n = sumTo out n
theorem stageB_iff {am out : List Int} {n : Nat} : stageB am out n = true ↔ StageP am out n := by
  simp only [stageB, Bool.and_eq_true, decide_eq_true_eq, rowB_iff, stocksL, stocksTo]
  constructor
  · rintro ⟨⟨⟨h1, h2⟩, h3⟩, h4⟩
    refine ⟨h2, h1, fun t ht => ?_, h4⟩
    rw [List.all_eq_true] at h3
    simpa using h3 (Go.Proofs.Ytamhhicnfpemeaa.stk am out t) (List.mem_map.2 ⟨t, List.mem_range.2 (by omega), rfl⟩)
  · rintro ⟨h1, h2, h3, h4⟩
    refine ⟨⟨⟨h2, h1⟩, ?_⟩, h4⟩
    rw [List.all_eq_true]
    intro x hx
    obtain ⟨t, ht, rfl⟩ := List.mem_map.1 hx
    simpa using h3 t (by have := List.mem_range.1 ht; omega)
/-- A chain plan. -/
def cplanB (c : Ch) (T : List (List Int)) : Bool := decide (T.length = c.setup.length) && (List.range T.length).all fun s => stageB (T.getD s []) (outR c.need T s) c.need.length
theorem cplanB_iff {c : Ch} {T : List (List Int)} : cplanB c T = true ↔ T.length = c.setup.length ∧ ∀ s, s < T.length → StageP (T.getD s []) (outR c.need T s) c.need.length := by
  simp only [cplanB, Bool.and_eq_true, decide_eq_true_eq, List.all_eq_true, List.mem_range, stageB_iff]
def two7 (c : Ch) (T : List (List Int)) : Bool := c.good && cplanB c T
end Go.Proofs.Ytamhhicnfpemeaa
