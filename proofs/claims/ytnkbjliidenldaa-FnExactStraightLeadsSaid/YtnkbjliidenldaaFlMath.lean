/- Flows, rules and parcels as numbers: days, orders that are told, courses of days. -/
import Derived.Test.YtnkbjliidenldaaLotMath
namespace Go.Proofs.Ytnkbjliidenldaa
set_option linter.unusedVariables false

structure Fl where
  stock : Int
  under : List Int
structure Rl where
  kind : Int
  low : Int
  high : Int
structure Pc where
  day : Int
  amount : Int
  lead : Int
def Fl0 : Fl := ⟨0, []⟩
def nearB (m x : Int) : Bool := decide (-m ≤ x) && decide (x ≤ m)
theorem nearB_iff {m x : Int} : nearB m x = true ↔ -m ≤ x ∧ x ≤ m := by simp [nearB]
def inF (b x : Int) : Bool := decide (0 ≤ x) && decide (x ≤ b)
theorem inF_iff {b x : Int} : inF b x = true ↔ 0 ≤ x ∧ x ≤ b := by simp [inF]
/-- At most some numbers, all in 0..top. -/
def numsB (l : List Int) (most : Nat) (top : Int) : Bool := decide (l.length ≤ most) && rowB l l.length top
theorem numsB_iff {l : List Int} {most : Nat} {top : Int} : numsB l most top = true ↔ l.length ≤ most ∧ ∀ x ∈ l, 0 ≤ x ∧ x ≤ top := by
  simp only [numsB, Bool.and_eq_true, decide_eq_true_eq, rowB_iff, and_true]
theorem numsB_all (l : List Int) (most : Nat) (top : Int) : numsB l most top = (decide (l.length ≤ most) && l.all (inF top)) := by
  simp only [numsB, rowB, decide_true, Bool.and_true]
  rfl
def Fl.good (f : Fl) : Bool := nearB 200 f.stock && numsB f.under 4 40
structure GoodF (f : Fl) : Prop where
  st : -200 ≤ f.stock ∧ f.stock ≤ 200
  l4 : f.under.length ≤ 4
  un : ∀ x ∈ f.under, 0 ≤ x ∧ x ≤ 40
theorem goodF_iff {f : Fl} : f.good = true ↔ GoodF f := by
  simp only [Fl.good, Bool.and_eq_true, nearB_iff, numsB_iff]
  exact ⟨fun h => ⟨h.1, h.2.1, h.2.2⟩, fun h => ⟨h.st, h.l4, h.un⟩⟩
def Fl.pos (f : Fl) : Int := f.stock + sumTo f.under f.under.length
theorem GoodF.sum {f : Fl} (h : GoodF f) (k : Nat) (hk : k ≤ f.under.length) : 0 ≤ sumTo f.under k ∧ sumTo f.under k ≤ 160 := by
  have := sumTo_bound (by decide) h.un k
  have := h.l4
  omega
theorem GoodF.pos {f : Fl} (h : GoodF f) : -200 ≤ f.pos ∧ f.pos ≤ 360 := by
  have := h.sum _ (Nat.le_refl _)
  have := h.st
  unfold Fl.pos; omega
/-- The flow behind a day. -/
def dayL (f : Fl) (o a : Int) : Fl := ⟨f.stock + (f.under ++ [o]).getD 0 0 - a, (f.under ++ [o]).drop 1⟩
def dayOk (f : Fl) (o a : Int) : Bool := f.good && inF 40 o && inF 20 a && (dayL f o a).good
def dayA (f : Fl) (o a : Int) : Fl := if dayOk f o a then dayL f o a else Fl0
theorem dayL_len (f : Fl) (o a : Int) : (dayL f o a).under.length = f.under.length := by simp [dayL]
theorem under_mem {f : Fl} (h : GoodF f) {o : Int} (ho : 0 ≤ o ∧ o ≤ 40) : ∀ x ∈ f.under ++ [o], 0 ≤ x ∧ x ≤ 40 := by
  intro x hx
  rcases List.mem_append.1 hx with hx | hx
  · exact h.un x hx
  · rw [List.mem_singleton] at hx; subst hx; exact ho
theorem under_bd {f : Fl} (h : GoodF f) {o : Int} (ho : 0 ≤ o ∧ o ≤ 40) (k : Nat) : 0 ≤ (f.under ++ [o]).getD k 0 ∧ (f.under ++ [o]).getD k 0 ≤ 40 := by
  rw [List.getD_eq_getElem?_getD]
  by_cases hk : k < (f.under ++ [o]).length
  · rw [List.getElem?_eq_getElem hk]
    exact under_mem h ho _ (List.getElem_mem hk)
  · rw [List.getElem?_eq_none (by omega)]; simp
theorem dayL_st {f : Fl} (h : GoodF f) {o a : Int} (ho : 0 ≤ o ∧ o ≤ 40) (ha : 0 ≤ a ∧ a ≤ 20) : -220 ≤ (dayL f o a).stock ∧ (dayL f o a).stock ≤ 240 := by
  have := under_bd h ho 0
  have := h.st
  simp only [dayL]; omega
theorem dayL_under {f : Fl} (h : GoodF f) {o a : Int} (ho : 0 ≤ o ∧ o ≤ 40) : numsB (dayL f o a).under 4 40 = true := by
  rw [numsB_iff]
  refine ⟨by rw [dayL_len]; exact h.l4, fun x hx => under_mem h ho x (List.mem_of_mem_drop hx)⟩
def Rl.good (r : Rl) : Bool := nearB 200 r.low && nearB 200 r.high &&
  (if r.kind = 1 then true else if r.kind = 2 then decide (r.low ≤ r.high) else if r.kind = 3 then decide (1 ≤ r.high) && decide (r.high ≤ 40) else false)
/-- How many lots. -/
def lotsJ (p low high : Int) : Nat := ((low - p + high - 1) / high).toNat
theorem lotsJ_iff {p low high : Int} (h : 1 ≤ high) (j : Nat) : j < lotsJ p low high ↔ p + j * high < low := by
  have e : j < lotsJ p low high ↔ ((j : Int) + 1) ≤ (low - p + high - 1) / high := by unfold lotsJ; omega
  rw [e, Int.le_ediv_iff_mul_le (by omega), Int.add_mul, Int.one_mul]
  omega
/-- The order that a rule tells for a position. -/
def ordR (r : Rl) (p : Int) : Int := if r.kind = 1 then max (r.high - p) 0 else if r.kind = 2 then (if p < r.low then r.high - p else 0) else (lotsJ p r.low r.high : Int) * r.high
structure GoodR (r : Rl) : Prop where
  low : -200 ≤ r.low ∧ r.low ≤ 200
  high : -200 ≤ r.high ∧ r.high ≤ 200
  kind : r.kind = 1 ∨ (r.kind = 2 ∧ r.low ≤ r.high) ∨ (r.kind = 3 ∧ 1 ≤ r.high ∧ r.high ≤ 40)
theorem goodR_iff {r : Rl} : r.good = true ↔ GoodR r := by
  simp only [Rl.good, Bool.and_eq_true, nearB_iff]
  constructor
  · rintro ⟨⟨h1, h2⟩, h3⟩
    refine ⟨h1, h2, ?_⟩
    by_cases k1 : r.kind = 1
    · exact .inl k1
    · rw [if_neg k1] at h3
      by_cases k2 : r.kind = 2
      · rw [if_pos k2] at h3; exact .inr (.inl ⟨k2, by simpa using h3⟩)
      · rw [if_neg k2] at h3
        by_cases k3 : r.kind = 3
        · rw [if_pos k3] at h3; exact .inr (.inr ⟨k3, by simpa using h3⟩)
        · rw [if_neg k3] at h3; cases h3
  · rintro ⟨h1, h2, h3⟩
    refine ⟨⟨h1, h2⟩, ?_⟩
    rcases h3 with h | ⟨h, h'⟩ | ⟨h, h'⟩
    · rw [if_pos h]
    · rw [if_neg (by omega), if_pos h]; simpa using h'
    · rw [if_neg (by omega), if_neg (by omega), if_pos h]; simpa using h'
theorem lots_le {p low high : Int} (h : 1 ≤ high) (j : Nat) (hj : j ≤ lotsJ p low high) : 0 ≤ (j : Int) * high ∧ ((j : Int) * high ≤ 0 ∨ (j : Int) * high ≤ low - p + high) := by
  refine ⟨Int.mul_nonneg (by omega) (by omega), ?_⟩
  cases j with
  | zero => left; simp
  | succ j =>
    right
    have := (lotsJ_iff (p := p) (low := low) h j).1 (by omega)
    have e : ((j + 1 : Nat) : Int) * high = (j : Int) * high + high := by rw [Int.natCast_add, Int.add_mul]; simp
    rw [e]; omega
theorem ordR_nonneg {r : Rl} (h : GoodR r) (p : Int) : 0 ≤ ordR r p := by
  unfold ordR
  have h1 := h.kind
  split
  · omega
  · split
    · split <;> omega
    · exact (lots_le (by omega) _ (Nat.le_refl _)).1
def ruleOk (f : Fl) (r : Rl) : Bool := f.good && r.good && decide (ordR r f.pos ≤ 40)
def ruleA (f : Fl) (r : Rl) : Int := if ruleOk f r then ordR r f.pos else 0
/-! Courses of days: what there is at first and behind each of k days. -/
def DayF : Int × Fl := (0, Fl0)
def crs (ord : Fl → Nat → Option Int) (asked : List Int) (f : Fl) : Nat → Option (List (Int × Fl))
  | 0 => some [(0, f)]
  | k + 1 => match crs ord asked f k with
    | none => none
    | some C => match ord (C.getD k DayF).2 k with
      | none => none
      | some o => if dayOk (C.getD k DayF).2 o (asked.getD k 0) then some (C ++ [(o, dayL (C.getD k DayF).2 o (asked.getD k 0))]) else none
theorem crs_len {ord : Fl → Nat → Option Int} {asked : List Int} {f : Fl} : ∀ (k : Nat) {C : List (Int × Fl)}, crs ord asked f k = some C → C.length = k + 1
  | 0, C, h => by cases h; rfl
  | k + 1, C, h => by
    simp only [crs] at h
    split at h
    · cases h
    · rename_i C' hC
      have := crs_len k hC
      split at h
      · cases h
      · split at h
        · cases h; simp [this]
        · cases h
theorem crs_none {ord : Fl → Nat → Option Int} {asked : List Int} {f : Fl} {k : Nat} (h : crs ord asked f k = none) : ∀ {n : Nat}, k ≤ n → crs ord asked f n = none := by
  intro n hn
  induction n with
  | zero => rw [show k = 0 by omega] at h; exact h
  | succ n ih =>
    by_cases e : k = n + 1
    · rw [← e]; exact h
    · simp only [crs, ih (by omega)]
/-- One step more. -/
theorem crs_step {ord : Fl → Nat → Option Int} {asked : List Int} {f : Fl} {k : Nat} {C : List (Int × Fl)} {o : Int} (h : crs ord asked f k = some C) (ho : ord (C.getD k DayF).2 k = some o) (hd : dayOk (C.getD k DayF).2 o (asked.getD k 0) = true) :
    crs ord asked f (k + 1) = some (C ++ [(o, dayL (C.getD k DayF).2 o (asked.getD k 0))]) := by
  simp only [crs, h, ho]; rw [if_pos hd]
theorem crs_stop {ord : Fl → Nat → Option Int} {asked : List Int} {f : Fl} {k : Nat} {C : List (Int × Fl)} {o : Int} (h : crs ord asked f k = some C) (ho : ord (C.getD k DayF).2 k = some o) (hd : dayOk (C.getD k DayF).2 o (asked.getD k 0) = false) :
    crs ord asked f (k + 1) = none := by
  simp only [crs, h, ho]; rw [if_neg (by rw [hd]; simp)]
theorem crs_stop' {ord : Fl → Nat → Option Int} {asked : List Int} {f : Fl} {k : Nat} {C : List (Int × Fl)} (h : crs ord asked f k = some C) (ho : ord (C.getD k DayF).2 k = none) :
    crs ord asked f (k + 1) = none := by
  simp only [crs, h, ho]
/-- What each day of a course is. -/
theorem crs_at {ord : Fl → Nat → Option Int} {asked : List Int} {f : Fl} : ∀ (k : Nat) {C : List (Int × Fl)}, crs ord asked f k = some C → C.getD 0 DayF = (0, f) ∧ ∀ i, i < k →
    ord (C.getD i DayF).2 i = some (C.getD (i + 1) DayF).1 ∧ dayOk (C.getD i DayF).2 (C.getD (i + 1) DayF).1 (asked.getD i 0) = true ∧ (C.getD (i + 1) DayF).2 = dayL (C.getD i DayF).2 (C.getD (i + 1) DayF).1 (asked.getD i 0)
  | 0, C, h => by cases h; exact ⟨rfl, fun i hi => absurd hi (by omega)⟩
  | k + 1, C, h => by
    simp only [crs] at h
    split at h
    · cases h
    · rename_i C' hC
      have hl := crs_len k hC
      obtain ⟨h0, hi⟩ := crs_at k hC
      split at h
      · cases h
      · rename_i o ho
        split at h
        · rename_i hd
          cases h
          have old : ∀ i, i < k + 1 → (C' ++ [(o, dayL (C'.getD k DayF).2 o (asked.getD k 0))]).getD i DayF = C'.getD i DayF := fun i hi => by
            rw [List.getD_eq_getElem?_getD, List.getElem?_append_left (by omega), ← List.getD_eq_getElem?_getD]
          have new : (C' ++ [(o, dayL (C'.getD k DayF).2 o (asked.getD k 0))]).getD (k + 1) DayF = (o, dayL (C'.getD k DayF).2 o (asked.getD k 0)) := by
            rw [List.getD_eq_getElem?_getD, List.getElem?_append_right (by omega), hl, Nat.sub_self]; rfl
          refine ⟨by rw [old 0 (by omega)]; exact h0, fun i hi2 => ?_⟩
          by_cases e : i = k
          · subst e
            rw [old i (by omega), new]
            exact ⟨ho, hd, rfl⟩
          · rw [old i (by omega), old (i + 1) (by omega)]
            exact hi i (by omega)
        · cases h
theorem dayOk_parts {f : Fl} {o a : Int} (h : dayOk f o a = true) : f.good = true ∧ inF 40 o = true ∧ inF 20 a = true ∧ (dayL f o a).good = true := by
  simp only [dayOk, Bool.and_eq_true] at h
  exact ⟨h.1.1.1, h.1.1.2, h.1.2, h.2⟩
theorem crs_asked {ord : Fl → Nat → Option Int} {asked : List Int} {f : Fl} {C : List (Int × Fl)} (h : crs ord asked f asked.length = some C) : ∀ x ∈ asked, 0 ≤ x ∧ x ≤ 20 := by
  intro x hx
  obtain ⟨i, hi, rfl⟩ := List.getElem_of_mem hx
  have := ((crs_at _ h).2 i hi).2.1
  have := inF_iff.1 (dayOk_parts this).2.2.1
  rw [List.getD_eq_getElem?_getD, List.getElem?_eq_getElem hi] at this
  exact this
theorem crs_good {ord : Fl → Nat → Option Int} {asked : List Int} {f : Fl} {k : Nat} {C : List (Int × Fl)} (hf : f.good = true) (h : crs ord asked f k = some C) : ∀ i, i ≤ k → (C.getD i DayF).2.good = true := by
  intro i hi
  cases i with
  | zero => rw [(crs_at _ h).1]; exact hf
  | succ i =>
    obtain ⟨_, hd, he⟩ := (crs_at _ h).2 i (by omega)
    rw [he]; exact (dayOk_parts hd).2.2.2
def stocksC (C : List (Int × Fl)) : List Int := (C.drop 1).map (·.2.stock)
def ordersC (C : List (Int × Fl)) : List Int := (C.drop 1).map (·.1)
/-- Runs with orders that are given. -/
def givenO (ords : List Int) (_ : Fl) (i : Nat) : Option Int := some (ords.getD i 0)
def givC (f : Fl) (ords asked : List Int) : Option (List (Int × Fl)) := if f.good && decide (ords.length = asked.length) && decide (asked.length ≤ 20) then crs (givenO ords) asked f asked.length else none
def runStocks (f : Fl) (ords asked : List Int) : List Int := match givC f ords asked with
  | some C => stocksC C
  | none => []
def runLast (f : Fl) (ords asked : List Int) : Fl := match givC f ords asked with
  | some C => (C.getD asked.length DayF).2
  | none => Fl0
def runOk (f : Fl) (ords asked : List Int) : Bool := (givC f ords asked).isSome
/-- Runs with orders that a rule tells. -/
def toldO (r : Rl) (f : Fl) (_ : Nat) : Option Int := if ruleOk f r then some (ordR r f.pos) else none
def traceC (f : Fl) (r : Rl) (asked : List Int) : Option (List (Int × Fl)) := if f.good && r.good && numsB asked 20 20 then crs (toldO r) asked f asked.length else none
def trOrders (f : Fl) (r : Rl) (asked : List Int) : List Int := match traceC f r asked with
  | some C => ordersC C
  | none => []
def trStocks (f : Fl) (r : Rl) (asked : List Int) : List Int := match traceC f r asked with
  | some C => stocksC C
  | none => []
def trOk (f : Fl) (r : Rl) (asked : List Int) : Bool := (traceC f r asked).isSome
/-- What is served on the first k days. -/
def srvC (C : List (Int × Fl)) (asked : List Int) : Nat → Int
  | 0 => 0
  | k + 1 => srvC C asked k + max (min (asked.getD k 0) ((C.getD (k + 1) DayF).2.stock + asked.getD k 0)) 0
def trSrv (f : Fl) (r : Rl) (asked : List Int) : Int := match traceC f r asked with
  | some C => srvC C asked asked.length
  | none => 0
def trSum (f : Fl) (r : Rl) (asked : List Int) : Int := if trOk f r asked then sumTo asked asked.length else 0
/-! Costs of stocks, needs of leads, the best level. -/
def scost (h b x : Int) : Int := if 0 < x then h * x else -b * x
def scosts (h b : Int) (l : List Int) (k : Nat) : Int := sumTo (l.map (scost h b)) k
def costOk11 (l : List Int) (h b : Int) : Bool := decide (l.length ≤ 20) && l.all (nearB 200) && (inF 9 h && inF 9 b)
def costA11 (l : List Int) (h b : Int) : Int := if costOk11 l h b then scosts h b l l.length else 0
theorem mul_bd {h y B : Int} (hh : 0 ≤ h ∧ h ≤ 9) (hy : 0 ≤ y ∧ y ≤ B) : 0 ≤ h * y ∧ h * y ≤ 9 * B :=
  ⟨Int.mul_nonneg hh.1 hy.1, Int.mul_le_mul hh.2 hy.2 hy.1 (by decide)⟩
theorem scost_bd {h b x B : Int} (hh : 0 ≤ h ∧ h ≤ 9) (hb : 0 ≤ b ∧ b ≤ 9) (hx : -B ≤ x ∧ x ≤ B) : 0 ≤ scost h b x ∧ scost h b x ≤ 9 * B := by
  unfold scost
  split
  · exact mul_bd hh ⟨by omega, hx.2⟩
  · have := mul_bd (h := b) (y := -x) (B := B) hb ⟨by omega, by omega⟩
    rw [Int.neg_mul, ← Int.mul_neg]
    exact this
theorem scost_two (h b x : Int) : scost h b x = h * max 0 x + b * max 0 (0 - x) := by
  unfold scost
  split
  · rw [show max (0 : Int) x = x by omega, show max (0 : Int) (0 - x) = 0 by omega]; simp
  · rw [show max (0 : Int) x = 0 by omega, show max (0 : Int) (0 - x) = -x by omega, Int.mul_zero, Int.zero_add, Int.mul_neg, Int.neg_mul]
theorem scosts_bd {h b B : Int} {l : List Int} (hB : 0 ≤ B) (hh : 0 ≤ h ∧ h ≤ 9) (hb : 0 ≤ b ∧ b ≤ 9) (hl : ∀ x ∈ l, -B ≤ x ∧ x ≤ B) (k : Nat) : 0 ≤ scosts h b l k ∧ scosts h b l k ≤ 9 * B * k :=
  sumTo_bound (by omega) (fun x hx => by
    obtain ⟨y, hy, rfl⟩ := List.mem_map.1 hx
    exact scost_bd hh hb (hl y hy)) k
/-- The numbers from i on, some of them. -/
def leadN (l : List Int) (lead i : Nat) : Int := sumTo ((l.take (i + lead + 1)).drop i) (lead + 1)
def needL (l : List Int) (lead n : Nat) : List Int := (List.range n).map (leadN l lead)
def leadOk (l : List Int) (lead : Int) : Bool := numsB l 20 20 && inF 4 lead
def needA (l : List Int) (lead : Int) : List Int := if leadOk l lead then needL l lead.toNat (l.length - lead.toNat) else []
theorem needL_s (l : List Int) (lead n : Nat) : needL l lead (n + 1) = needL l lead n ++ [leadN l lead n] := by simp [needL, List.range_succ]
theorem needL_len (l : List Int) (lead n : Nat) : (needL l lead n).length = n := by simp [needL]
theorem leadN_bd {l : List Int} (h : ∀ x ∈ l, 0 ≤ x ∧ x ≤ 20) {lead : Nat} (hl : lead ≤ 4) (i : Nat) : 0 ≤ leadN l lead i ∧ leadN l lead i ≤ 100 := by
  have := sumTo_bound (l := (l.take (i + lead + 1)).drop i) (m := 20) (by decide) (fun x hx => h x (List.mem_of_mem_take (List.mem_of_mem_drop hx))) (lead + 1)
  unfold leadN; omega
theorem needL_bd {l : List Int} (h : ∀ x ∈ l, 0 ≤ x ∧ x ≤ 20) {lead : Nat} (hl : lead ≤ 4) (n : Nat) : ∀ x ∈ needL l lead n, 0 ≤ x ∧ x ≤ 100 := by
  intro x hx
  obtain ⟨i, _, rfl⟩ := List.mem_map.1 hx
  exact leadN_bd h hl i
/-- The cost of a level. -/
def upC (N : List Int) (h b : Int) (s : Nat) : Int := scosts h b (N.map (fun x => (s : Int) - x)) N.length
/-- The first one of the numbers up to n with the least value. -/
def bestS (C : Nat → Int) : Nat → Nat
  | 0 => 0
  | n + 1 => if C (n + 1) < C (bestS C n) then n + 1 else bestS C n
theorem bestS_le (C : Nat → Int) : ∀ n, bestS C n ≤ n ∧ (∀ s, s ≤ n → C (bestS C n) ≤ C s) ∧ ∀ s, s < bestS C n → C (bestS C n) < C s
  | 0 => ⟨by simp [bestS], fun s hs => by rw [show s = 0 by omega]; simp [bestS], fun s hs => by simp [bestS] at hs⟩
  | n + 1 => by
    obtain ⟨h1, h2, h3⟩ := bestS_le C n
    unfold bestS
    split
    · rename_i hc
      refine ⟨Nat.le_refl _, fun s hs => ?_, fun s hs => ?_⟩
      · by_cases e : s = n + 1
        · rw [e]; exact Int.le_refl _
        · have := h2 s (by omega); omega
      · have := h2 s (by omega); omega
    · rename_i hc
      refine ⟨by omega, fun s hs => ?_, h3⟩
      by_cases e : s = n + 1
      · rw [e]; omega
      · exact h2 s (by omega)
def bestOk (l : List Int) (lead h b : Int) : Bool := leadOk l lead && (inF 9 h && inF 9 b)
def bestUp (l : List Int) (lead h b : Int) : Nat := bestS (upC (needA l lead) h b) 200
theorem upC_bd {N : List Int} (hN : ∀ x ∈ N, 0 ≤ x ∧ x ≤ 100) (hl : N.length ≤ 20) {h b : Int} (hh : 0 ≤ h ∧ h ≤ 9) (hb : 0 ≤ b ∧ b ≤ 9) {s : Nat} (hs : s ≤ 200) (k : Nat) (hk : k ≤ 20) : 0 ≤ scosts h b (N.map (fun x => (s : Int) - x)) k ∧ scosts h b (N.map (fun x => (s : Int) - x)) k ≤ 100000 := by
  have := scosts_bd (h := h) (b := b) (B := 300) (l := N.map (fun x => (s : Int) - x)) (by decide) hh hb (fun x hx => by
    obtain ⟨y, hy, rfl⟩ := List.mem_map.1 hx
    have := hN y hy
    omega) k
  omega
/-! Parcels. -/
def Pc0' : Pc := ⟨0, 0, 0⟩
def Pc.good (p : Pc) : Bool := (decide (1 ≤ p.day) && decide (p.day ≤ 20)) && (decide (1 ≤ p.amount) && decide (p.amount ≤ 40)) && inF 4 p.lead
structure GoodP11 (p : Pc) : Prop where
  day : 1 ≤ p.day ∧ p.day ≤ 20
  amount : 1 ≤ p.amount ∧ p.amount ≤ 40
  lead : 0 ≤ p.lead ∧ p.lead ≤ 4
theorem goodPc_iff {p : Pc} : p.good = true ↔ GoodP11 p := by
  simp only [Pc.good, Bool.and_eq_true, decide_eq_true_eq, inF_iff]
  exact ⟨fun h => ⟨h.1.1, h.1.2, h.2⟩, fun h => ⟨⟨h.day, h.amount⟩, h.lead⟩⟩
end Go.Proofs.Ytnkbjliidenldaa
