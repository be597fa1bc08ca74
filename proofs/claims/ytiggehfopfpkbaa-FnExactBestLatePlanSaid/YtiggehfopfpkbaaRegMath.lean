/- No plan costs less than the way, the way is the first one of those that cost least, and it is regular. -/
import Derived.Test.YtiggehfopfpkbaaWayMath
namespace Go.Proofs.Ytiggehfopfpkbaa
set_option linter.unusedVariables false
set_option linter.unusedSimpArgs false

def ordP (p : Nat → Int) : Nat → Int
  | 0 => 0
  | t + 1 => ordP p t + p t
def costP (w : Ws) (p : Nat → Int) : Nat → Int
  | 0 => 0
  | t + 1 => costP w p t + stepF w.k w.rates t (p t) (ordP p (t + 1) - w.due (t + 1))
/-- Amounts that keep the limits and the least balance. -/
structure PlanP (w : Ws) (p : Nat → Int) : Prop where
  nn : ∀ t, t < w.n → 0 ≤ p t ∧ p t ≤ w.lim t
  lo : ∀ t, t < w.n → w.lo ≤ ordP p (t + 1) - w.due (t + 1)
  tot : ordP p w.n = w.tot
theorem ordP_congr {p q : Nat → Int} {i : Nat} (h : ∀ t, t < i → p t = q t) : ordP p i = ordP q i := by
  induction i with
  | zero => rfl
  | succ i ih => rw [ordP, ordP, ih fun t ht => h t (by omega), h i (by omega)]
theorem costP_congr {w : Ws} {p q : Nat → Int} {i : Nat} (h : ∀ t, t < i → p t = q t) : costP w p i = costP w q i := by
  induction i with
  | zero => rfl
  | succ i ih => rw [costP, costP, ih fun t ht => h t (by omega), h i (by omega), ordP_congr (i := i + 1) fun t ht => h t (by omega)]
theorem planP_ge {w : Ws} {p : Nat → Int} (h : PlanP w p) : ∀ (d t : Nat), t + d = w.n → ∃ r, wayT w t (ordP p t) = some r ∧ r.1 ≤ costP w p w.n - costP w p t := by
  intro d
  induction d with
  | zero =>
    intro t ht
    rw [show t = w.n by omega, wayT_end]
    exact ⟨_, if_pos h.tot, by simp⟩
  | succ d ih =>
    intro t ht
    obtain ⟨r, hr, hc⟩ := ih (t + 1) (by omega)
    have hn := h.nn t (by omega)
    have hl := h.lo t (by omega)
    have e : (((p t).toNat : Nat) : Int) = p t := by omega
    rw [ordP] at hr hl
    have hx := wayX_of (w := w) (nx := wayT w (t + 1)) (t := t) (o := ordP p t) (x := (p t).toNat) (r := r) (by rw [e]; exact hl) (by rw [e]; exact hr)
    rw [wayT_s w (by omega)]
    obtain ⟨q, hq⟩ := least_ex (n := w.lim t + 1) (by omega) hx
    refine ⟨q, hq, ?_⟩
    have := ((least_some _ _ hq).2.2 _ _ (by omega) hx).1
    rw [costP, ordP] at hc
    rw [e] at this
    omega
/-- The amounts of the way. -/
def pW (w : Ws) (t : Nat) : Int := amtW w t (ordW w t)
theorem ordP_pW (w : Ws) (t : Nat) : ordP (pW w) t = ordW w t := by
  induction t with
  | zero => rfl
  | succ t ih => rw [ordP, ordW, ih]; rfl
theorem pW_step {w : Ws} (h : ∃ r, wayT w 0 0 = some r) {t : Nat} (ht : t < w.n) : ∃ r q, wayT w t (ordW w t) = some r ∧ wayT w (t + 1) (ordW w (t + 1)) = some q ∧ pW w t = r.2 ∧ r.2 ≤ w.lim t ∧ w.lo ≤ ordW w (t + 1) - w.due (t + 1) ∧
    r.1 = stepF w.k w.rates t (pW w t) (ordW w (t + 1) - w.due (t + 1)) + q.1 ∧ wayX w (wayT w (t + 1)) t (ordW w t) r.2 = some r.1 := by
  obtain ⟨r, hr⟩ := way_on h t (by omega)
  have e1 : pW w t = r.2 := by unfold pW; rw [amtW_some hr]
  have e2 : ordW w (t + 1) = ordW w t + r.2 := by rw [ordW, amtW_some hr]
  have hr' := hr
  rw [wayT_s w ht] at hr'
  obtain ⟨h1, h2, h3⟩ := least_some _ _ hr'
  obtain ⟨q, g1, g2, g3⟩ := wayX_some h2
  exact ⟨r, q, hr, by rw [e2]; exact g2, e1, by omega, by rw [e2]; exact g1, by rw [e1, e2]; exact g3, h2⟩
theorem pW_ok {w : Ws} (h : ∃ r, wayT w 0 0 = some r) : PlanP w (pW w) := by
  refine ⟨fun t ht => ?_, fun t ht => ?_, ?_⟩
  · obtain ⟨r, q, h1, h2, h3, h4, h5, h6, h7⟩ := pW_step h ht
    omega
  · obtain ⟨r, q, h1, h2, h3, h4, h5, h6, h7⟩ := pW_step h ht
    rw [ordP_pW]; exact h5
  · obtain ⟨r, hr⟩ := way_on h w.n (Nat.le_refl _)
    rw [wayT_end] at hr
    rw [ordP_pW]
    split at hr
    · assumption
    · cases hr
theorem pW_cost {w : Ws} (h : ∃ r, wayT w 0 0 = some r) : ∀ (d t : Nat), t + d = w.n → ∃ r, wayT w t (ordW w t) = some r ∧ r.1 = costP w (pW w) w.n - costP w (pW w) t := by
  intro d
  induction d with
  | zero =>
    intro t ht
    obtain ⟨r, hr⟩ := way_on h w.n (Nat.le_refl _)
    rw [show t = w.n by omega]
    refine ⟨r, hr, ?_⟩
    rw [wayT_end] at hr
    split at hr
    · cases hr; simp
    · cases hr
  | succ d ih =>
    intro t ht
    obtain ⟨r, q, h1, h2, h3, h4, h5, h6, h7⟩ := pW_step h (t := t) (by omega)
    obtain ⟨q', g1, g2⟩ := ih (t + 1) (by omega)
    rw [h2] at g1
    cases g1
    refine ⟨r, h1, ?_⟩
    rw [costP, ordP_pW] at g2
    omega
/-- What differs first with less costs more. -/
theorem planP_first {w : Ws} (h : ∃ r, wayT w 0 0 = some r) {p : Nat → Int} (hp : PlanP w p) {i : Nat} (hi : i < w.n) (he : ∀ t, t < i → p t = pW w t) (hlt : p i < pW w i) : costP w (pW w) w.n < costP w p w.n := by
  obtain ⟨r, hr, hc⟩ := pW_cost h (w.n - i) i (by omega)
  obtain ⟨q, hq, hqc⟩ := planP_ge hp (w.n - (i + 1)) (i + 1) (by omega)
  have hn := hp.nn i hi
  have hl := hp.lo i hi
  have e : (((p i).toNat : Nat) : Int) = p i := by omega
  have eo : ordP p i = ordW w i := by rw [ordP_congr he, ordP_pW]
  have ec : costP w p i = costP w (pW w) i := costP_congr he
  rw [ordP, eo] at hq hl
  have hx := wayX_of (w := w) (nx := wayT w (i + 1)) (t := i) (o := ordW w i) (x := (p i).toNat) (r := q) (by rw [e]; exact hl) (by rw [e]; exact hq)
  have e1 : pW w i = r.2 := by unfold pW; rw [amtW_some hr]
  rw [wayT_s w hi] at hr
  have := ((least_some _ _ hr).2.2 _ _ (by omega) hx).2 (by omega)
  rw [costP, ordP, eo, ec] at hqc
  rw [e] at this
  omega
theorem planP_least {w : Ws} (h : ∃ r, wayT w 0 0 = some r) {p : Nat → Int} (hp : PlanP w p) : costP w (pW w) w.n ≤ costP w p w.n := by
  obtain ⟨r, hr, hc⟩ := pW_cost h w.n 0 (by omega)
  obtain ⟨q, hq, hqc⟩ := planP_ge hp w.n 0 (by omega)
  have e1 : ordP p 0 = 0 := rfl
  have e2 : ordW w 0 = 0 := rfl
  rw [e1] at hq
  rw [e2, hq] at hr
  cases hr
  have e3 : costP w p 0 = 0 := rfl
  have e4 : costP w (pW w) 0 = 0 := rfl
  omega

/-- A unit that is moved. -/
def mvP (p : Nat → Int) (i j : Nat) (d : Int) (t : Nat) : Int := p t - (if t = i then d else 0) + (if t = j then d else 0)
theorem ordP_mv (p : Nat → Int) {i j : Nat} (d : Int) (hij : i < j) (t : Nat) : ordP (mvP p i j d) t = ordP p t - (if i < t ∧ t ≤ j then d else 0) := by
  induction t with
  | zero => simp [ordP]
  | succ t ih =>
    rw [ordP, ordP, ih]
    unfold mvP
    by_cases h1 : t = i
    · subst h1
      rw [if_neg (by omega), if_pos rfl, if_neg (by omega), if_pos (by omega)]; omega
    · by_cases h2 : t = j
      · subst h2
        rw [if_pos (by omega), if_neg (by omega), if_pos rfl, if_neg (by omega)]; omega
      · rw [if_neg h1, if_neg h2]
        by_cases h3 : i < t ∧ t ≤ j
        · rw [if_pos h3, if_pos (by omega)]; omega
        · rw [if_neg h3, if_neg (by omega)]; omega
theorem step_two (k : Cs) (rates : List Int) (t : Nat) (hs : 0 ≤ k.setup.getD t 0) {x b dx db : Int} (hx : 0 ≤ x) (hd : dx ≠ 0 → 0 < x ∧ -1 ≤ dx ∧ dx ≤ 1) (h1 : 0 ≤ b - db) (h2 : 0 ≤ b + db) (h0 : 0 ≤ b) :
    stepF k rates t (x - dx) (b - db) + stepF k rates t (x + dx) (b + db) ≤ stepF k rates t x b + stepF k rates t x b := by
  unfold stepF
  rw [if_neg (show ¬ (b - db < 0) by omega), if_neg (show ¬ (b + db < 0) by omega), if_neg (show ¬ (b < 0) by omega), Int.mul_sub, Int.mul_sub, Int.mul_add, Int.mul_add]
  by_cases hz : dx = 0
  · subst hz
    simp only [Int.sub_zero, Int.add_zero, Int.mul_zero]
    omega
  · obtain ⟨p1, p2, p3⟩ := hd hz
    rw [if_pos p1]
    split <;> split <;> omega
/-- Amounts between which stock is left are not both partial. -/
theorem way_regular {w : Ws} (hw : WsOk w) (h0 : w.lo = 0) (h : ∃ r, wayT w 0 0 = some r) {i j : Nat} (hij : i < j) (hj : j < w.n) (hi1 : 0 < pW w i) (hi2 : pW w i < w.lim i) (hj1 : 0 < pW w j) (hj2 : pW w j < w.lim j)
    (hs : ∀ t, i ≤ t → t < j → 0 < ordW w (t + 1) - w.due (t + 1)) : False := by
  have hok := pW_ok h
  have ok : ∀ d : Int, (d = 1 ∨ d = -1) → PlanP w (mvP (pW w) i j d) := by
    intro d hd
    refine ⟨fun t ht => ?_, fun t ht => ?_, ?_⟩
    · have := hok.nn t ht
      unfold mvP
      by_cases h1 : t = i
      · subst h1; rw [if_pos rfl, if_neg (by omega)]; omega
      · by_cases h2 : t = j
        · subst h2; rw [if_neg (by omega), if_pos rfl]; omega
        · rw [if_neg h1, if_neg h2]; omega
    · have := hok.lo t ht
      rw [ordP_mv _ _ hij]
      rw [ordP_pW] at this ⊢
      by_cases h3 : i < t + 1 ∧ t + 1 ≤ j
      · have := hs t (by omega) (by omega)
        rw [if_pos h3]; omega
      · rw [if_neg h3]; omega
    · rw [ordP_mv _ _ hij, if_neg (by omega)]
      have := hok.tot
      omega
  have key : ∀ t, t ≤ w.n → costP w (mvP (pW w) i j 1) t + costP w (mvP (pW w) i j (-1)) t ≤ costP w (pW w) t + costP w (pW w) t := by
    intro t
    induction t with
    | zero => intro _; exact Int.le_refl _
    | succ t ih =>
      intro ht
      have ih := ih (by omega)
      rw [costP, costP, costP, ordP_mv _ _ hij, ordP_mv _ _ hij, ordP_pW]
      have hst := (getD_bound (m := 99) (by omega) hw.g.setup t).1
      have hnn := (hok.nn t (by omega)).1
      have hlo := hok.lo t (by omega)
      rw [ordP_pW, h0] at hlo
      have hsx : i < t + 1 ∧ t + 1 ≤ j → 0 < ordW w (t + 1) - w.due (t + 1) := fun hq => hs t (by omega) (by omega)
      have := step_two w.k w.rates t hst (x := pW w t) (b := ordW w (t + 1) - w.due (t + 1)) (dx := (if t = i then 1 else 0) - (if t = j then 1 else 0)) (db := if i < t + 1 ∧ t + 1 ≤ j then 1 else 0) hnn
        (fun hd => by
          by_cases h1 : t = i
          · subst h1; rw [if_pos rfl, if_neg (by omega)]; omega
          · by_cases h2 : t = j
            · subst h2; rw [if_neg (by omega), if_pos rfl]; omega
            · rw [if_neg h1, if_neg h2] at hd; omega)
        (by split <;> omega) (by split <;> omega) hlo
      have e1 : mvP (pW w) i j 1 t = pW w t - ((if t = i then 1 else 0) - (if t = j then 1 else 0)) := by unfold mvP; omega
      have e2 : mvP (pW w) i j (-1) t = pW w t + ((if t = i then 1 else 0) - (if t = j then 1 else 0)) := by unfold mvP; split <;> split <;> omega
      have e3 : ordW w (t + 1) - (if i < t + 1 ∧ t + 1 ≤ j then (1 : Int) else 0) - w.due (t + 1) = ordW w (t + 1) - w.due (t + 1) - (if i < t + 1 ∧ t + 1 ≤ j then (1 : Int) else 0) := by omega
      have e4 : ordW w (t + 1) - (if i < t + 1 ∧ t + 1 ≤ j then (-1 : Int) else 0) - w.due (t + 1) = ordW w (t + 1) - w.due (t + 1) + (if i < t + 1 ∧ t + 1 ≤ j then (1 : Int) else 0) := by split <;> omega
      rw [e1, e2, e3, e4]
      omega
  have f1 := planP_first h (ok 1 (.inl rfl)) (i := i) (by omega) (fun t ht => by unfold mvP; rw [if_neg (by omega), if_neg (by omega)]; omega) (by unfold mvP; rw [if_pos rfl, if_neg (by omega)]; omega)
  have f2 := planP_least h (ok (-1) (.inr rfl))
  have := key w.n (Nat.le_refl _)
  omega

/-- An amount is partial. -/
def partW (w : Ws) (t : Nat) (x : Nat) : Bool := decide (0 < x) && decide (x < w.lim t)
/-- What an amount leads to if only one may be partial from one empty stock to the next. -/
def regX (w : Ws) (nx : Int → Bool → Option (Int × Nat)) (t : Nat) (o : Int) (used : Bool) (x : Nat) : Option Int :=
  if partW w t x && used then none
  else if w.lo ≤ o + x - w.due (t + 1) then (nx (o + x) (decide (0 < o + x - w.due (t + 1)) && (used || partW w t x))).map (fun r => stepF w.k w.rates t x (o + x - w.due (t + 1)) + r.1) else none
def regF (w : Ws) : Nat → Int → Bool → Option (Int × Nat)
  | 0, o, _ => if o = w.tot then some (0, 0) else none
  | j + 1, o, used => least (regX w (regF w j) (w.n - (j + 1)) o used) (w.lim (w.n - (j + 1)) + 1)
def regT (w : Ws) (t : Nat) (o : Int) (used : Bool) : Option (Int × Nat) := regF w (w.n - t) o used
theorem regT_end (w : Ws) (o : Int) (used : Bool) : regT w w.n o used = if o = w.tot then some (0, 0) else none := by
  unfold regT; rw [Nat.sub_self, regF]
theorem regT_s (w : Ws) {t : Nat} (h : t < w.n) (o : Int) (used : Bool) : regT w t o used = least (regX w (regT w (t + 1)) t o used) (w.lim t + 1) := by
  unfold regT
  obtain ⟨j, hj⟩ : ∃ j, w.n - t = j + 1 := ⟨w.n - t - 1, by omega⟩
  rw [hj, regF, show w.n - (j + 1) = t by omega, show w.n - (t + 1) = j by omega]
theorem regX_some {w : Ws} {nx : Int → Bool → Option (Int × Nat)} {t : Nat} {o : Int} {used : Bool} {x : Nat} {c : Int} (h : regX w nx t o used x = some c) :
    ∃ r, (partW w t x && used) = false ∧ w.lo ≤ o + x - w.due (t + 1) ∧ nx (o + x) (decide (0 < o + x - w.due (t + 1)) && (used || partW w t x)) = some r ∧ c = stepF w.k w.rates t x (o + x - w.due (t + 1)) + r.1 := by
  unfold regX at h
  split at h
  · cases h
  · rename_i hp
    split at h
    · rename_i hl
      cases hn : nx (o + x) (decide (0 < o + x - w.due (t + 1)) && (used || partW w t x)) with
      | none => rw [hn] at h; cases h
      | some r => rw [hn] at h; cases h; exact ⟨r, by simpa using hp, hl, rfl, rfl⟩
    · cases h
theorem regX_of {w : Ws} {nx : Int → Bool → Option (Int × Nat)} {t : Nat} {o : Int} {used : Bool} {x : Nat} {r : Int × Nat} (hp : (partW w t x && used) = false) (h : w.lo ≤ o + x - w.due (t + 1))
    (hr : nx (o + x) (decide (0 < o + x - w.due (t + 1)) && (used || partW w t x)) = some r) : regX w nx t o used x = some (stepF w.k w.rates t x (o + x - w.due (t + 1)) + r.1) := by
  unfold regX; rw [if_neg (by simp [hp]), if_pos h, hr]; rfl
theorem reg_ge (w : Ws) : ∀ (d t : Nat), t + d = w.n → ∀ (o : Int) (used : Bool) (r : Int × Nat), regT w t o used = some r → ∃ q, wayT w t o = some q ∧ q.1 ≤ r.1 := by
  intro d
  induction d with
  | zero =>
    intro t ht o used r hr
    rw [show t = w.n by omega, regT_end] at hr
    rw [show t = w.n by omega, wayT_end]
    exact ⟨r, hr, Int.le_refl _⟩
  | succ d ih =>
    intro t ht o used r hr
    rw [regT_s w (by omega)] at hr
    obtain ⟨h1, h2, h3⟩ := least_some _ _ hr
    obtain ⟨q, g0, g1, g2, g3⟩ := regX_some h2
    obtain ⟨q2, k1, k2⟩ := ih (t + 1) (by omega) _ _ _ g2
    have hx := wayX_of (w := w) (t := t) (o := o) (x := r.2) g1 k1
    rw [wayT_s w (by omega)]
    obtain ⟨z, hz⟩ := least_ex (n := w.lim t + 1) (by omega) hx
    have := ((least_some _ _ hz).2.2 _ _ (by omega) hx).1
    exact ⟨z, hz, by omega⟩
/-- Whether an amount was partial since the stock was 0. -/
def useW (w : Ws) : Nat → Bool
  | 0 => false
  | t + 1 => decide (0 < ordW w (t + 1) - w.due (t + 1)) && (useW w t || partW w t (amtW w t (ordW w t)))
theorem useW_from (w : Ws) : ∀ t, useW w t = true → ∃ i, i < t ∧ 0 < pW w i ∧ pW w i < w.lim i ∧ ∀ s, i ≤ s → s < t → 0 < ordW w (s + 1) - w.due (s + 1) := by
  intro t
  induction t with
  | zero => intro h; cases h
  | succ t ih =>
    intro h
    rw [useW, Bool.and_eq_true, decide_eq_true_eq, Bool.or_eq_true] at h
    obtain ⟨h1, h2 | h2⟩ := h
    · obtain ⟨i, g1, g2, g3, g4⟩ := ih h2
      refine ⟨i, by omega, g2, g3, fun s hs1 hs2 => ?_⟩
      by_cases e : s = t
      · subst e; exact h1
      · exact g4 s hs1 (by omega)
    · unfold partW at h2
      rw [Bool.and_eq_true, decide_eq_true_eq, decide_eq_true_eq] at h2
      refine ⟨t, by omega, by unfold pW; omega, by unfold pW; omega, fun s hs1 hs2 => ?_⟩
      have e : s = t := by omega
      subst e; exact h1
/-- On the way, both tables agree. -/
theorem reg_way {w : Ws} (hw : WsOk w) (h0 : w.lo = 0) (h : ∃ r, wayT w 0 0 = some r) : ∀ (d t : Nat), t + d = w.n → regT w t (ordW w t) (useW w t) = wayT w t (ordW w t) := by
  intro d
  induction d with
  | zero => intro t ht; rw [show t = w.n by omega, regT_end, wayT_end]
  | succ d ih =>
    intro t ht
    have ih := ih (t + 1) (by omega)
    obtain ⟨r, q, h1, h2, h3, h4, h5, h6, h7⟩ := pW_step h (t := t) (by omega)
    have ea : amtW w t (ordW w t) = r.2 := amtW_some h1
    have eo : ordW w (t + 1) = ordW w t + r.2 := by rw [ordW, ea]
    have hp : (partW w t r.2 && useW w t) = false := by
      cases hu : useW w t with
      | false => simp
      | true =>
        cases hq : partW w t r.2 with
        | false => rfl
        | true =>
          unfold partW at hq
          rw [Bool.and_eq_true, decide_eq_true_eq, decide_eq_true_eq] at hq
          obtain ⟨i, g1, g2, g3, g4⟩ := useW_from w t hu
          exact (way_regular hw h0 h g1 (by omega) g2 g3 (by omega) (by omega) g4).elim
    rw [h2] at ih
    rw [useW, ea, eo] at ih
    have hx := regX_of (w := w) (nx := regT w (t + 1)) (t := t) (o := ordW w t) (used := useW w t) (x := r.2) hp (by rw [← eo]; exact h5) ih
    rw [← eo, ← h3, ← h6] at hx
    rw [regT_s w (by omega), h1]
    obtain ⟨z, hz⟩ := least_ex (n := w.lim t + 1) (by omega) hx
    rw [hz]
    obtain ⟨l1, l2, l3⟩ := least_some _ _ hz
    obtain ⟨k1, k2⟩ := l3 _ _ (by omega) hx
    obtain ⟨y, y0, y1, y2, y3⟩ := regX_some l2
    obtain ⟨y', z1, z2⟩ := reg_ge w (w.n - (t + 1)) (t + 1) (by omega) _ _ _ y2
    have hwx := wayX_of (w := w) (t := t) (o := ordW w t) (x := z.2) y1 z1
    have h1' := h1
    rw [wayT_s w (by omega)] at h1'
    obtain ⟨w1, w2, w3⟩ := least_some _ _ h1'
    obtain ⟨v1, v2⟩ := w3 _ _ (by omega) hwx
    have e1 : z.1 = r.1 := by omega
    have e2 : z.2 = r.2 := by
      rcases Nat.lt_trichotomy z.2 r.2 with hlt | he | hgt
      · have := v2 hlt; omega
      · exact he
      · have := k2 hgt; omega
    rw [show z = r from Prod.ext e1 e2]
end Go.Proofs.Ytiggehfopfpkbaa
