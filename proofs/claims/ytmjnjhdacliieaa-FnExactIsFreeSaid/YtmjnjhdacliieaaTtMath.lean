/- Timetables: cycles, shares, offsets, visits. -/
import Derived.Test.YtmjnjhdacliieaaComMath
namespace Go.Proofs.Ytmjnjhdacliieaa
set_option linter.unusedVariables false

/-- Cycles of a timetable. -/
def cycB (l : List Int) : Bool := l.all (inR 1 64) && decide (l.length ≤ 5)
structure GoodC (l : List Int) : Prop where
  len : l.length ≤ 5
  all : ∀ k, k < l.length → 1 ≤ l.getD k 0 ∧ l.getD k 0 ≤ 64
theorem cycB_iff {l : List Int} : cycB l = true ↔ GoodC l := by
  simp only [cycB, Bool.and_eq_true, List.all_eq_true, inR_iff, decide_eq_true_eq]
  constructor
  · rintro ⟨h1, h2⟩
    refine ⟨h2, fun k hk => ?_⟩
    rw [List.getD_eq_getElem?_getD, List.getElem?_eq_getElem hk]
    exact h1 _ (List.getElem_mem hk)
  · intro h
    refine ⟨fun x hx => ?_, h.len⟩
    obtain ⟨k, hk, rfl⟩ := List.mem_iff_getElem.1 hx
    have := h.all k hk
    rw [List.getD_eq_getElem?_getD, List.getElem?_eq_getElem hk] at this
    exact this
theorem fr_unit {c : Int} (hc : 1 ≤ c) : fr 1 c = (1, c) := by
  have h := fr_spec (a := 1) (b := c) (by decide) (by omega)
  have e1 : (fr 1 c).1 * c = (fr 1 c).2 := by have := h.2.2.1; omega
  have n1 : (fr 1 c).1 = 1 := by
    have : (fr 1 c).1 ≠ 0 := fun h0 => by rw [h0] at e1; simp at e1; omega
    omega
  rw [n1] at e1
  exact Prod.ext n1 (by simpa using e1.symm)
/-- The share of so many cycles. -/
def shareTo (l : List Int) : Nat → Int × Int
  | 0 => (0, 1)
  | n + 1 => addF (shareTo l n) (fr 1 (l.getD n 0))
def shareF (l : List Int) : Int × Int := shareTo l l.length
def prodC (l : List Int) : Nat → Int
  | 0 => 1
  | n + 1 => prodC l n * l.getD n 0
theorem prodC_bd {l : List Int} (h : GoodC l) (n : Nat) (hn : n ≤ l.length) : 1 ≤ prodC l n ∧ prodC l n ≤ 64 ^ n := by
  induction n with
  | zero => simp [prodC]
  | succ n ih =>
    have g := h.all n (by omega)
    have i := ih (by omega)
    have e1 := Int.mul_le_mul i.1 g.1 (by decide) (by omega)
    have e2 := Int.mul_le_mul i.2 g.2 (by omega) (Int.pow_nonneg (by decide))
    constructor
    · simpa [prodC] using e1
    · simpa [prodC, Int.pow_succ] using e2
theorem prodC_max {l : List Int} (h : GoodC l) (n : Nat) (hn : n ≤ l.length) : 1 ≤ prodC l n ∧ prodC l n ≤ 1073741824 := by
  have hb := prodC_bd h n hn
  have hl := h.len
  have p0 : (64 : Int) ^ 0 = 1 := by decide
  have p1 : (64 : Int) ^ 1 = 64 := by decide
  have p2 : (64 : Int) ^ 2 = 4096 := by decide
  have p3 : (64 : Int) ^ 3 = 262144 := by decide
  have p4 : (64 : Int) ^ 4 = 16777216 := by decide
  have p5 : (64 : Int) ^ 5 = 1073741824 := by decide
  have : n = 0 ∨ n = 1 ∨ n = 2 ∨ n = 3 ∨ n = 4 ∨ n = 5 := by omega
  rcases this with rfl | rfl | rfl | rfl | rfl | rfl <;> omega
theorem cyc_dvd (l : List Int) (k n : Nat) (hk : k < n) : l.getD k 0 ∣ prodC l n := by
  induction n with
  | zero => omega
  | succ n ih =>
    by_cases e : k = n
    · subst e; exact ⟨prodC l k, by simp [prodC, Int.mul_comm]⟩
    · exact Int.dvd_trans (ih (by omega)) ⟨l.getD n 0, rfl⟩
theorem share_bd {l : List Int} (h : GoodC l) (n : Nat) (hn : n ≤ l.length) : Bd (prodC l l.length) n (shareTo l n) := by
  have hD := (prodC_bd h l.length (Nat.le_refl _)).1
  induction n with
  | zero => exact Bd.zero
  | succ n ih =>
    have g := h.all n (by omega)
    refine (Bd.add (by omega) (ih (by omega)) (Bd.fr (V := 1) (by decide) (by omega) (cyc_dvd l n l.length (by omega)) (by omega))).mono ?_
    push_cast; omega
theorem share_nums {l : List Int} (h : GoodC l) (n : Nat) (hn : n ≤ l.length) : (0 ≤ (shareTo l n).1 ∧ (shareTo l n).1 ≤ 5368709120) ∧ (0 < (shareTo l n).2 ∧ (shareTo l n).2 ≤ 1073741824) := by
  have hD := prodC_max h l.length (Nat.le_refl _)
  have hl := h.len
  have b := share_bd h n hn
  have d := b.den (by omega)
  have le := b.le
  have := b.nn
  have := b.pos
  have m := mul_le2 (a := (n : Int)) (x := (shareTo l n).2) (A := 5) (B := 1073741824) (by omega) (by omega)
  omega
/-! Offsets. -/
def ttB (l o : List Int) : Bool := cycB l && decide (o.length = l.length) && (List.range l.length).all (fun i => inR 0 (l.getD i 0 - 1) (o.getD i 0))
structure Tab (l o : List Int) : Prop where
  cyc : GoodC l
  len : o.length = l.length
  off : ∀ i, i < l.length → 0 ≤ o.getD i 0 ∧ o.getD i 0 ≤ l.getD i 0 - 1
theorem ttB_iff {l o : List Int} : ttB l o = true ↔ Tab l o := by
  simp only [ttB, Bool.and_eq_true, cycB_iff, decide_eq_true_eq, List.all_eq_true, List.mem_range, inR_iff]
  exact ⟨fun ⟨⟨a, b⟩, c⟩ => ⟨a, b, c⟩, fun h => ⟨⟨h.cyc, h.len⟩, h.off⟩⟩
theorem Tab.nums {l o : List Int} (h : Tab l o) {i : Nat} (hi : i < l.length) : (1 ≤ l.getD i 0 ∧ l.getD i 0 ≤ 64) ∧ (0 ≤ o.getD i 0 ∧ o.getD i 0 ≤ 63) := by
  have := h.cyc.all i hi
  have := h.off i hi
  omega
/-- Whether two visits meet. -/
def meetB (a x b y : Int) : Bool := (x - y).tmod ((a.toNat.gcd b.toNat : Nat) : Int) == 0
def rowFree (l o : List Int) (i n : Nat) : Bool := (List.range n).all fun k => !meetB (l.getD i 0) (o.getD i 0) (l.getD k 0) (o.getD k 0)
def freeTo (l o : List Int) (n : Nat) : Bool := (List.range n).all fun i => rowFree l o i i
def freeB (l o : List Int) : Bool := freeTo l o l.length
theorem rowFree_step (l o : List Int) (i n : Nat) : rowFree l o i (n + 1) = (rowFree l o i n && !meetB (l.getD i 0) (o.getD i 0) (l.getD n 0) (o.getD n 0)) := by
  simp [rowFree, List.range_succ]
theorem freeTo_step (l o : List Int) (n : Nat) : freeTo l o (n + 1) = (freeTo l o n && rowFree l o n n) := by
  simp [freeTo, List.range_succ]
theorem rowFree_no {l o : List Int} {i k n : Nat} (hk : k < n) (h : meetB (l.getD i 0) (o.getD i 0) (l.getD k 0) (o.getD k 0) = true) : rowFree l o i n = false := by
  cases hr : rowFree l o i n with
  | false => rfl
  | true =>
    have := List.all_eq_true.1 hr k (List.mem_range.2 hk)
    rw [h] at this; cases this
theorem freeTo_no {l o : List Int} {i n : Nat} (hi : i < n) (h : rowFree l o i i = false) : freeTo l o n = false := by
  cases hr : freeTo l o n with
  | false => rfl
  | true =>
    have := List.all_eq_true.1 hr i (List.mem_range.2 hi)
    rw [h] at this; cases this
/-- Whether there is a visit on a day. -/
def onB (c o day : Int) : Bool := day.tmod c == o
def visTo (l o : List Int) (day : Int) : Nat → List Int
  | 0 => []
  | n + 1 => visTo l o day n ++ (if onB (l.getD n 0) (o.getD n 0) day then [(n : Int)] else [])
theorem visTo_len (l o : List Int) (day : Int) (n : Nat) : (visTo l o day n).length ≤ n := by
  induction n with
  | zero => simp [visTo]
  | succ n ih =>
    simp only [visTo, List.length_append]
    split <;> simp <;> omega
def visL (l o : List Int) (day : Int) : List Int := visTo l o day l.length
def busyTo (l o : List Int) : Nat → Int
  | 0 => 0
  | n + 1 => busyTo l o n + (if 0 < (visL l o n).length then 1 else 0)
theorem busyTo_bd (l o : List Int) (n : Nat) : 0 ≤ busyTo l o n ∧ busyTo l o n ≤ n := by
  induction n with
  | zero => simp [busyTo]
  | succ n ih => simp only [busyTo]; split <;> push_cast <;> omega
/-- The visits of a timetable. -/
def zipV (l o : List Int) (n : Nat) : List (Int × Int) := (List.range n).map fun i => (l.getD i 0, o.getD i 0)
theorem zipV_len (l o : List Int) (n : Nat) : (zipV l o n).length = n := by simp [zipV]
theorem zipV_at (l o : List Int) (n i : Nat) (h : i < n) : (zipV l o n).getD i (0, 0) = (l.getD i 0, o.getD i 0) := by simp [zipV, List.getD_eq_getElem?_getD, h]
theorem zipV_step (l o : List Int) (n : Nat) : zipV l o (n + 1) = zipV l o n ++ [(l.getD n 0, o.getD n 0)] := by simp [zipV, List.range_succ]
theorem zipV_take (l o : List Int) (n k : Nat) (h : k ≤ n) : (zipV l o n).take k = zipV l o k := by
  simp only [zipV, ← List.map_take, List.take_range, Nat.min_eq_left h]
theorem any_visits (l o : List Int) (day : Int) (n : Nat) : ((zipV l o n).any fun p => onB p.1 p.2 day) = decide (0 < (visTo l o day n).length) := by
  induction n with
  | zero => rfl
  | succ n ih =>
    rw [zipV_step, List.any_append, ih, visTo, List.length_append]
    generalize l.getD n 0 = c
    generalize o.getD n 0 = d
    cases hb : onB c d day <;> simp [hb]
theorem any_row (l o : List Int) (i n : Nat) : ((zipV l o n).any fun p => meetB (l.getD i 0) (o.getD i 0) p.1 p.2) = !rowFree l o i n := by
  induction n with
  | zero => rfl
  | succ n ih =>
    rw [zipV_step, List.any_append, ih, rowFree_step]
    simp
end Go.Proofs.Ytmjnjhdacliieaa
