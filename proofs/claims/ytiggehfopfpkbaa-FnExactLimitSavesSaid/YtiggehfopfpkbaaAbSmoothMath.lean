/- Smoothing: each step leads from a plan to a plan, and there is a last one. -/
import Derived.Test.YtiggehfopfpkbaaAbGrow
namespace Go.Proofs.Ytiggehfopfpkbaa.Ab
open Go Go.RowKit
set_option linter.unusedVariables false
set_option linter.unusedSimpArgs false

theorem getD_set (l : List Int) (i j : Nat) (x : Int) (h : i < l.length) : (l.set i x).getD j 0 = if i = j then x else l.getD j 0 := by
  rw [List.getD_eq_getElem?_getD, List.getElem?_set]
  by_cases e : i = j
  · subst e; rw [if_pos rfl, if_pos rfl, if_pos h]; rfl
  · rw [if_neg e, if_neg e, List.getD_eq_getElem?_getD]
theorem sumTo_set (l : List Int) (i : Nat) (x : Int) (h : i < l.length) (k : Nat) : sumTo (l.set i x) k = sumTo l k + (if i < k then x - l.getD i 0 else 0) := by
  induction k with
  | zero => rw [if_neg (by omega)]; rfl
  | succ k ih =>
    rw [sumTo_g, sumTo_g, ih, getD_set l i k x h]
    by_cases e : i = k
    · subst e; rw [if_neg (by omega), if_pos rfl, if_pos (by omega)]; omega
    · rw [if_neg e]
      by_cases e2 : i < k
      · rw [if_pos e2, if_pos (by omega)]; omega
      · rw [if_neg e2, if_neg (by omega)]; omega
theorem sumTo_flat {l : List Int} {a b : Nat} (hab : a ≤ b) (h : ∀ t, a ≤ t → t < b → l.getD t 0 = 0) : sumTo l b = sumTo l a := by
  induction b with
  | zero => obtain rfl : a = 0 := by omega
            rfl
  | succ b ih =>
    by_cases e : a = b + 1
    · rw [e]
    · rw [sumTo_g, h b (by omega) (by omega), ih (by omega) (fun t h1 h2 => h t h1 (by omega))]; omega
theorem nn_of_getD {l : List Int} (h : ∀ t, t < l.length → 0 ≤ l.getD t 0) : ∀ x ∈ l, 0 ≤ x := by
  intro x hx
  obtain ⟨i, hi, rfl⟩ := List.getElem_of_mem hx
  have := h i hi
  rwa [List.getD_eq_getElem?_getD, List.getElem?_eq_getElem hi] at this
theorem mkPlan {c : Cs} {plan : List Int} (hg : Good c) (hl : plan.length = c.need.length) (h0 : ∀ x ∈ plan, 0 ≤ x) (hs : ∀ t, t < plan.length → 0 ≤ stk plan c.need t) (he : sumTo plan plan.length = sumTo c.need plan.length) : Plan c plan := by
  refine ⟨hl, fun x hx => ⟨h0 x hx, ?_⟩, hs, he⟩
  obtain ⟨i, hi, rfl⟩ := List.getElem_of_mem hx
  have e := sumTo_succ (List.getElem?_eq_getElem hi)
  have m1 := sumTo_mono h0 (j := i + 1) (k := plan.length) (by omega)
  have m0 := sumTo_mono h0 (j := 0) (k := i) (by omega)
  have := sumTo_need hg
  rw [sumTo_zero] at m0
  rw [hl] at he m1
  omega

/-- The last place before p that is not 0. -/
def lastQ (plan : List Int) : Nat → Nat
  | 0 => 0
  | q + 1 => if plan.getD q 0 = 0 then lastQ plan q else q
theorem lastQ_spec {plan : List Int} {p : Nat} (h : ∃ q, q < p ∧ plan.getD q 0 ≠ 0) : lastQ plan p < p ∧ plan.getD (lastQ plan p) 0 ≠ 0 ∧ ∀ t, lastQ plan p < t → t < p → plan.getD t 0 = 0 := by
  induction p with
  | zero => obtain ⟨q, hq, _⟩ := h; omega
  | succ p ih =>
    rw [lastQ]
    by_cases hz : plan.getD p 0 = 0
    · rw [if_pos hz]
      obtain ⟨q, hq, hn⟩ := h
      have hqp : q < p := by
        rcases Nat.lt_or_ge q p with h1 | h1
        · exact h1
        · have : q = p := by omega
          rw [this] at hn; exact absurd hz hn
      obtain ⟨a, b, c⟩ := ih ⟨q, hqp, hn⟩
      refine ⟨by omega, b, fun t h1 h2 => ?_⟩
      by_cases e : t = p
      · rw [e]; exact hz
      · exact c t h1 (by omega)
    · rw [if_neg hz]
      exact ⟨by omega, hz, fun t h1 h2 => by omega⟩
theorem earlyF_spec {f : Nat → Bool} : ∀ (n t p : Nat), earlyF f n t = some p → t ≤ p ∧ p < t + n ∧ f p = true ∧ ∀ q, t ≤ q → q < p → f q = false := by
  intro n
  induction n with
  | zero => intro t p h; cases h
  | succ n ih =>
    intro t p h
    rw [earlyF] at h
    by_cases hf : f t = true
    · rw [if_pos hf] at h
      cases h
      exact ⟨Nat.le_refl _, by omega, hf, fun q h1 h2 => by omega⟩
    · rw [if_neg hf] at h
      obtain ⟨a, b, c, d⟩ := ih (t + 1) p h
      refine ⟨by omega, by omega, c, fun q h1 h2 => ?_⟩
      by_cases e : q = t
      · rw [e]; simpa using hf
      · exact d q (by omega) h2
/-- What is known of the first early order of a plan. -/
structure Early (c : Cs) (plan : List Int) (p q : Nat) (m : Int) : Prop where
  p1 : 1 ≤ p
  pn : p < plan.length
  pp : 0 < plan.getD p 0
  hm : m = stk plan c.need (p - 1)
  m0 : 0 < m
  hq : q = lastQ plan p
  qp : q < p
  q0 : 0 < plan.getD q 0
  flat : ∀ t, q < t → t < p → plan.getD t 0 = 0
  base : sumTo plan q = sumTo c.need q
  le : m ≤ plan.getD q 0
  before : ∀ t, 1 ≤ t → t < p → earlyAt plan (stocksL plan c.need) t = false
theorem early_of {c : Cs} {plan : List Int} (hg : Good c) (hp : Plan c plan) {p : Nat} (h : earlyO plan (stocksL plan c.need) = some p) : Early c plan p (lastQ plan p) (stk plan c.need (p - 1)) := by
  obtain ⟨hl, hin, hst, hsum⟩ := hp
  obtain ⟨a, b, d, e⟩ := earlyF_spec _ _ _ h
  have nb : ∀ t, 0 ≤ plan.getD t 0 := fun t => (getD_bound (m := 160) (by omega) hin t).1
  have hpn : p < plan.length := by omega
  unfold earlyAt at d
  rw [Bool.and_eq_true, decide_eq_true_eq, decide_eq_true_eq, stocksL_at (by omega)] at d
  obtain ⟨d1, d2⟩ := d
  have ex : ∃ q, q < p ∧ plan.getD q 0 ≠ 0 := by
    apply Classical.byContradiction
    intro hno
    have hz : ∀ t, 0 ≤ t → t < p → plan.getD t 0 = 0 := fun t _ ht => by
      apply Classical.byContradiction
      intro hn
      exact hno ⟨t, ht, hn⟩
    have f0 := sumTo_flat (Nat.zero_le p) hz
    have n0 := (sumTo_bound (m := 20) (by omega) hg.need p).1
    unfold stk at d2
    rw [Nat.sub_add_cancel a, f0, sumTo_zero] at d2
    omega
  obtain ⟨q1, q2, q3⟩ := lastQ_spec ex
  have hq0 : 0 < plan.getD (lastQ plan p) 0 := by have := nb (lastQ plan p); omega
  have base : sumTo plan (lastQ plan p) = sumTo c.need (lastQ plan p) := by
    rcases Nat.eq_zero_or_pos (lastQ plan p) with h0 | h0
    · rw [h0]; rfl
    · have hb := e (lastQ plan p) h0 q1
      unfold earlyAt at hb
      rw [decide_eq_true hq0, Bool.true_and, decide_eq_false_iff_not, stocksL_at (by omega)] at hb
      have := hst (lastQ plan p - 1) (by omega)
      unfold stk at this hb
      rw [Nat.sub_add_cancel h0] at this hb
      omega
  have flat := sumTo_flat (l := plan) (a := lastQ plan p + 1) (b := p) (by omega) (fun t h1 h2 => q3 t (by omega) h2)
  have sg := sumTo_g plan (lastQ plan p)
  have mono := sumTo_mono (fun x hx => (hg.need x hx).1) (j := lastQ plan p) (k := p) (by omega)
  refine ⟨a, hpn, d1, rfl, d2, rfl, q1, hq0, q3, base, ?_, e⟩
  unfold stk
  rw [Nat.sub_add_cancel a]
  omega

def laterP (plan : List Int) (q p : Nat) (m : Int) : List Int := (plan.set q (plan.getD q 0 - m)).set p (plan.getD p 0 + m)
def soonerP (plan : List Int) (q p : Nat) : List Int := (plan.set q (plan.getD q 0 + plan.getD p 0)).set p 0
def smoothS (c : Cs) (plan : List Int) (p : Nat) : List Int :=
  if costOf c plan < costOf c (laterP plan (lastQ plan p) p (stk plan c.need (p - 1))) then soonerP plan (lastQ plan p) p else laterP plan (lastQ plan p) p (stk plan c.need (p - 1))
theorem moved_getD (plan : List Int) {q p : Nat} (hqp : q < p) (hpn : p < plan.length) (x y : Int) (t : Nat) : ((plan.set q x).set p y).getD t 0 = if p = t then y else if q = t then x else plan.getD t 0 := by
  rw [getD_set _ _ _ _ (by simpa using hpn), getD_set _ _ _ _ (by omega)]
theorem moved_sum (plan : List Int) {q p : Nat} (hqp : q < p) (hpn : p < plan.length) (x y : Int) (k : Nat) :
    sumTo ((plan.set q x).set p y) k = sumTo plan k + (if q < k then x - plan.getD q 0 else 0) + (if p < k then y - plan.getD p 0 else 0) := by
  rw [sumTo_set _ _ _ (by simpa using hpn), sumTo_set _ _ _ (by omega), getD_set _ _ _ _ (by omega), if_neg (show ¬ (q = p) by omega)]
theorem later_plan {c : Cs} {plan : List Int} {p q : Nat} {m : Int} (hg : Good c) (hp : Plan c plan) (h : Early c plan p q m) : Plan c (laterP plan q p m) := by
  obtain ⟨hl, hin, hst, hsum⟩ := hp
  have nb : ∀ t, 0 ≤ plan.getD t 0 := fun t => (getD_bound (m := 160) (by omega) hin t).1
  have h1 := h.qp
  have h2 := h.pn
  have hm0 := h.m0
  have hle := h.le
  have len : (laterP plan q p m).length = plan.length := by simp [laterP]
  have sm := fun k => moved_sum plan h1 h2 (plan.getD q 0 - m) (plan.getD p 0 + m) k
  have gd := fun t => moved_getD plan h1 h2 (plan.getD q 0 - m) (plan.getD p 0 + m) t
  refine mkPlan hg (by rw [len, hl]) (nn_of_getD fun t ht => ?_) (fun t ht => ?_) ?_
  · have := nb t
    have := nb p
    unfold laterP; rw [gd]
    split
    · omega
    · split
      · omega
      · omega
  · rw [len] at ht
    have s0 := hst t ht
    unfold stk laterP at *
    rw [sm]
    by_cases c1 : q < t + 1
    · by_cases c2 : p < t + 1
      · rw [if_pos c1, if_pos c2]; omega
      · rw [if_pos c1, if_neg c2]
        have f := sumTo_flat (l := plan) (a := t + 1) (b := p) (by omega) (fun u u1 u2 => h.flat u (by omega) u2)
        have mo := sumTo_mono (fun x hx => (hg.need x hx).1) (j := t + 1) (k := p) (by omega)
        have hm := h.hm
        unfold stk at hm
        rw [Nat.sub_add_cancel h.p1] at hm
        omega
    · rw [if_neg c1, if_neg (by omega)]; omega
  · rw [len]
    unfold laterP
    rw [sm, if_pos (by omega), if_pos h2]
    omega
theorem sooner_plan {c : Cs} {plan : List Int} {p q : Nat} {m : Int} (hg : Good c) (hp : Plan c plan) (h : Early c plan p q m) : Plan c (soonerP plan q p) := by
  obtain ⟨hl, hin, hst, hsum⟩ := hp
  have nb : ∀ t, 0 ≤ plan.getD t 0 := fun t => (getD_bound (m := 160) (by omega) hin t).1
  have h1 := h.qp
  have h2 := h.pn
  have hpp := h.pp
  have len : (soonerP plan q p).length = plan.length := by simp [soonerP]
  have sm := fun k => moved_sum plan h1 h2 (plan.getD q 0 + plan.getD p 0) 0 k
  have gd := fun t => moved_getD plan h1 h2 (plan.getD q 0 + plan.getD p 0) 0 t
  refine mkPlan hg (by rw [len, hl]) (nn_of_getD fun t ht => ?_) (fun t ht => ?_) ?_
  · have := nb t
    have := nb q
    unfold soonerP; rw [gd]
    split
    · omega
    · split
      · omega
      · omega
  · rw [len] at ht
    have s0 := hst t ht
    unfold stk soonerP at *
    rw [sm]
    by_cases c1 : q < t + 1
    · by_cases c2 : p < t + 1
      · rw [if_pos c1, if_pos c2]; omega
      · rw [if_pos c1, if_neg c2]; omega
    · rw [if_neg c1, if_neg (by omega)]; omega
  · rw [len]
    unfold soonerP
    rw [sm, if_pos (by omega), if_pos h2]
    omega
theorem smooth_plan {c : Cs} {plan : List Int} {p : Nat} (hg : Good c) (hp : Plan c plan) (h : earlyO plan (stocksL plan c.need) = some p) : Plan c (smoothS c plan p) := by
  have e := early_of hg hp h
  unfold smoothS
  split
  · exact sooner_plan hg hp e
  · exact later_plan hg hp e

/-- How many of the first periods have orders. -/
def ordN (plan : List Int) : Nat → Nat
  | 0 => 0
  | k + 1 => ordN plan k + (if 0 < plan.getD k 0 then 1 else 0)
theorem ordN_le {L plan : List Int} (h : ∀ t, 0 < L.getD t 0 → 0 < plan.getD t 0) (k : Nat) : ordN L k ≤ ordN plan k := by
  induction k with
  | zero => exact Nat.le_refl _
  | succ k ih =>
    rw [ordN, ordN]
    have := h k
    by_cases a : 0 < L.getD k 0
    · rw [if_pos a, if_pos (this a)]; omega
    · rw [if_neg a]; split <;> omega
theorem ordN_lt {L plan : List Int} (h : ∀ t, 0 < L.getD t 0 → 0 < plan.getD t 0) {k t0 : Nat} (ht : t0 < k) (h1 : 0 < plan.getD t0 0) (h2 : ¬ (0 < L.getD t0 0)) : ordN L k < ordN plan k := by
  induction k with
  | zero => omega
  | succ k ih =>
    rw [ordN, ordN]
    by_cases e : t0 = k
    · subst e
      rw [if_neg h2, if_pos h1]
      have := ordN_le h t0
      omega
    · have := ih (by omega)
      have hk := h k
      by_cases a : 0 < L.getD k 0
      · rw [if_pos a, if_pos (hk a)]; omega
      · rw [if_neg a]; split <;> omega
def firstE (o : Option Nat) : Nat := o.getD 9
def measS (c : Cs) (plan : List Int) : Nat := 10 * ordN plan plan.length + (9 - firstE (earlyO plan (stocksL plan c.need)))
theorem smooth_less {c : Cs} {plan : List Int} {p : Nat} (hg : Good c) (hp : Plan c plan) (h : earlyO plan (stocksL plan c.need) = some p) : measS c (smoothS c plan p) < measS c plan := by
  have e := early_of hg hp h
  have h1 := e.qp
  have h2 := e.pn
  have h8 := hg.n8
  have hl := hp.1
  have ep : firstE (earlyO plan (stocksL plan c.need)) = p := by rw [h]; rfl
  unfold smoothS
  split
  · unfold measS
    have len : (soonerP plan (lastQ plan p) p).length = plan.length := by simp [soonerP]
    rw [len, ep]
    have gd := fun t => moved_getD plan h1 h2 (plan.getD (lastQ plan p) 0 + plan.getD p 0) 0 t
    have sub : ∀ t, 0 < (soonerP plan (lastQ plan p) p).getD t 0 → 0 < plan.getD t 0 := fun t ht => by
      unfold soonerP at ht
      rw [gd] at ht
      by_cases a : p = t
      · rw [if_pos a] at ht; omega
      · rw [if_neg a] at ht
        by_cases b : lastQ plan p = t
        · rw [← b]; exact e.q0
        · rw [if_neg b] at ht; exact ht
    have lt := ordN_lt sub h2 e.pp (by unfold soonerP; rw [gd, if_pos rfl]; omega)
    omega
  · generalize hq : lastQ plan p = q at *
    generalize hm : stk plan c.need (p - 1) = m at *
    have len : (laterP plan q p m).length = plan.length := by simp [laterP]
    have gd := fun t => moved_getD plan h1 h2 (plan.getD q 0 - m) (plan.getD p 0 + m) t
    have sm := fun k => moved_sum plan h1 h2 (plan.getD q 0 - m) (plan.getD p 0 + m) k
    have sub : ∀ t, 0 < (laterP plan q p m).getD t 0 → 0 < plan.getD t 0 := fun t ht => by
      unfold laterP at ht
      rw [gd] at ht
      by_cases a : p = t
      · rw [← a]; exact e.pp
      · rw [if_neg a] at ht
        by_cases b : q = t
        · rw [← b]; exact e.q0
        · rw [if_neg b] at ht; exact ht
    have le := ordN_le sub plan.length
    have noE : ∀ t, 1 ≤ t → t ≤ p → earlyAt (laterP plan q p m) (stocksL (laterP plan q p m) c.need) t = false := fun t t1 tp => by
      unfold earlyAt
      rw [stocksL_at (by rw [len]; omega)]
      rcases Nat.lt_or_ge q t with c1 | c1
      · by_cases c2 : t = p
        · subst c2
          have hs : stk (laterP plan q t m) c.need (t - 1) = 0 := by
            unfold stk laterP
            rw [sm, Nat.sub_add_cancel t1, if_pos c1, if_neg (by omega)]
            have := e.hm
            unfold stk at this
            rw [Nat.sub_add_cancel t1] at this
            omega
          rw [hs]; simp
        · have hz : (laterP plan q p m).getD t 0 = 0 := by
            unfold laterP
            rw [gd, if_neg (by omega), if_neg (by omega)]
            exact e.flat t c1 (by omega)
          rw [hz]; simp
      · have hs : stk (laterP plan q p m) c.need (t - 1) = stk plan c.need (t - 1) := by
          unfold stk laterP
          rw [sm, Nat.sub_add_cancel t1, if_neg (by omega), if_neg (by omega)]
          omega
        rw [hs]
        have := e.before t t1 (by omega)
        unfold earlyAt at this
        rw [stocksL_at (by omega)] at this
        rcases Bool.and_eq_false_iff.1 this with b | b
        · have : decide (0 < (laterP plan q p m).getD t 0) = false := by
            rw [decide_eq_false_iff_not] at b ⊢
            exact fun hh => b (sub t hh)
          rw [this]; rfl
        · rw [b]; simp
    have later : p < firstE (earlyO (laterP plan q p m) (stocksL (laterP plan q p m) c.need)) := by
      cases ho : earlyO (laterP plan q p m) (stocksL (laterP plan q p m) c.need) with
      | none => unfold firstE; simp; omega
      | some p' =>
        obtain ⟨a, b, d, _⟩ := earlyF_spec _ _ _ ho
        show p < p'
        rcases Nat.lt_or_ge p p' with w | w
        · exact w
        · rw [noE p' a w] at d; cases d
    unfold measS
    rw [len, ep]
    omega
/-- Smoothing comes to an end there. -/
inductive SmoothTo (c : Cs) : List Int → List Int → Prop
  | done {plan : List Int} : earlyO plan (stocksL plan c.need) = none → SmoothTo c plan plan
  | step {plan res : List Int} {p : Nat} : earlyO plan (stocksL plan c.need) = some p → SmoothTo c (smoothS c plan p) res → SmoothTo c plan res
theorem smoothTo_ex {c : Cs} (hg : Good c) : ∀ (f : Nat) (plan : List Int), Plan c plan → measS c plan < f → ∃ res, SmoothTo c plan res := by
  intro f
  induction f with
  | zero => intro plan _ h; omega
  | succ f ih =>
    intro plan hp hf
    cases h : earlyO plan (stocksL plan c.need) with
    | none => exact ⟨plan, .done h⟩
    | some p =>
      have := smooth_less hg hp h
      obtain ⟨res, hr⟩ := ih _ (smooth_plan hg hp h) (by omega)
      exact ⟨res, .step h hr⟩
def smoothF (c : Cs) : Nat → List Int → List Int
  | 0, plan => plan
  | f + 1, plan => match earlyO plan (stocksL plan c.need) with
    | none => plan
    | some p => smoothF c f (smoothS c plan p)
theorem smoothF_to {c : Cs} (hg : Good c) : ∀ (f : Nat) (plan : List Int), Plan c plan → measS c plan < f → SmoothTo c plan (smoothF c f plan) := by
  intro f
  induction f with
  | zero => intro plan _ h; omega
  | succ f ih =>
    intro plan hp hf
    rw [smoothF]
    cases h : earlyO plan (stocksL plan c.need) with
    | none => exact .done h
    | some p =>
      have := smooth_less hg hp h
      exact .step h (ih _ (smooth_plan hg hp h) (by omega))
end Go.Proofs.Ytiggehfopfpkbaa.Ab
