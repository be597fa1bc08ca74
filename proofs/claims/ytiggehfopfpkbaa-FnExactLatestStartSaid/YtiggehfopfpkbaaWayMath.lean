/- Best amounts from a period on, by what has been ordered before: a table from behind. -/
import Derived.Test.YtiggehfopfpkbaaTabMath
namespace Go.Proofs.Ytiggehfopfpkbaa
set_option linter.unusedVariables false
set_option linter.unusedSimpArgs false

/-- What an amount in a period costs that leaves a balance. -/
def stepF (k : Cs) (rates : List Int) (t : Nat) (x b : Int) : Int :=
  k.unit.getD t 0 * x + (if 0 < x then k.setup.getD t 0 else 0) + (if b < 0 then rates.getD t 0 * (-b) else k.hold.getD t 0 * b)
/-- The first one of the least ones among the first n. -/
def least (f : Nat → Option Int) : Nat → Option (Int × Nat)
  | 0 => none
  | x + 1 => match f x with
    | none => least f x
    | some c => match least f x with
      | none => some (c, x)
      | some b => if c < b.1 then some (c, x) else some b
theorem least_no {f : Nat → Option Int} {x : Nat} (h : f x = none) : least f (x + 1) = least f x := by rw [least, h]
theorem least_yes {f : Nat → Option Int} {x : Nat} {c : Int} (h : f x = some c) : least f (x + 1) = match least f x with
      | none => some (c, x)
      | some b => if c < b.1 then some (c, x) else some b := by rw [least, h]
theorem least_cut {f : Nat → Option Int} {a b : Nat} (hab : a ≤ b) (h : ∀ x, a ≤ x → x < b → f x = none) : least f b = least f a := by
  obtain ⟨d, rfl⟩ := Nat.exists_eq_add_of_le hab
  clear hab
  induction d with
  | zero => rfl
  | succ d ih => rw [← Nat.add_assoc, least_no (h _ (by omega) (by omega))]; exact ih fun x h1 h2 => h x h1 (by omega)
theorem least_none {f : Nat → Option Int} : ∀ n : Nat, least f n = none → ∀ y, y < n → f y = none := by
  intro n
  induction n with
  | zero => intro _ y hy; omega
  | succ n ih =>
    intro h y hy
    cases hf : f n with
    | none =>
      rw [least_no hf] at h
      by_cases e : y = n
      · rw [e]; exact hf
      · exact ih h y (by omega)
    | some c =>
      rw [least_yes hf] at h
      split at h
      · cases h
      · split at h <;> cases h
theorem least_some {f : Nat → Option Int} : ∀ (n : Nat) (r : Int × Nat), least f n = some r → r.2 < n ∧ f r.2 = some r.1 ∧ ∀ (y : Nat) (c : Int), y < n → f y = some c → r.1 ≤ c ∧ (y < r.2 → r.1 < c) := by
  intro n
  induction n with
  | zero => intro r h; cases h
  | succ n ih =>
    intro r h
    cases hf : f n with
    | none =>
      rw [least_no hf] at h
      obtain ⟨h1, h2, h3⟩ := ih r h
      refine ⟨by omega, h2, fun y c hy hc => ?_⟩
      by_cases e : y = n
      · rw [e, hf] at hc; cases hc
      · exact h3 y c (by omega) hc
    | some c =>
      rw [least_yes hf] at h
      cases hl : least f n with
      | none =>
        rw [hl] at h
        cases h
        refine ⟨by simp, hf, fun y c' hy hc => ?_⟩
        by_cases e : y = n
        · rw [e, hf] at hc; cases hc; simp [e]
        · rw [least_none n hl y (by omega)] at hc; cases hc
      | some b =>
        rw [hl] at h
        obtain ⟨h1, h2, h3⟩ := ih b hl
        simp only [] at h
        by_cases hcb : c < b.1
        · rw [if_pos hcb] at h
          cases h
          refine ⟨by simp, hf, fun y c' hy hc => ?_⟩
          by_cases e : y = n
          · rw [e, hf] at hc; cases hc; simp [e]
          · have := (h3 y c' (by omega) hc).1
            simp only []
            omega
        · rw [if_neg hcb] at h
          cases h
          refine ⟨by omega, h2, fun y c' hy hc => ?_⟩
          by_cases e : y = n
          · rw [e, hf] at hc; cases hc; omega
          · exact h3 y c' (by omega) hc
theorem least_ex {f : Nat → Option Int} {n y : Nat} {c : Int} (hy : y < n) (h : f y = some c) : ∃ r, least f n = some r := by
  cases hl : least f n with
  | none => rw [least_none n hl y hy] at h; cases h
  | some r => exact ⟨r, rfl⟩

/-- What a search is about: a case, limits, rates, and the least balance. -/
structure Ws where
  k : Cs
  lims : List Int
  rates : List Int
  lo : Int
def Ws.n (w : Ws) : Nat := w.k.need.length
def Ws.tot (w : Ws) : Int := sumTo w.k.need w.n
def Ws.due (w : Ws) (t : Nat) : Int := sumTo w.k.need t
def Ws.lim (w : Ws) (t : Nat) : Nat := (w.lims.getD t 0).toNat
/-- What an amount leads to. -/
def wayX (w : Ws) (nx : Int → Option (Int × Nat)) (t : Nat) (o : Int) (x : Nat) : Option Int :=
  if w.lo ≤ o + x - w.due (t + 1) then (nx (o + x)).map (fun r => stepF w.k w.rates t x (o + x - w.due (t + 1)) + r.1) else none
def wayF (w : Ws) : Nat → Int → Option (Int × Nat)
  | 0, o => if o = w.tot then some (0, 0) else none
  | j + 1, o => least (wayX w (wayF w j) (w.n - (j + 1)) o) (w.lim (w.n - (j + 1)) + 1)
/-- The least cost from a period on and the least amount with it, by what has been ordered before. -/
def wayT (w : Ws) (t : Nat) (o : Int) : Option (Int × Nat) := wayF w (w.n - t) o
theorem wayT_end (w : Ws) (o : Int) : wayT w w.n o = if o = w.tot then some (0, 0) else none := by
  unfold wayT; rw [Nat.sub_self, wayF]
theorem wayT_s (w : Ws) {t : Nat} (h : t < w.n) (o : Int) : wayT w t o = least (wayX w (wayT w (t + 1)) t o) (w.lim t + 1) := by
  unfold wayT
  obtain ⟨j, hj⟩ : ∃ j, w.n - t = j + 1 := ⟨w.n - t - 1, by omega⟩
  rw [hj, wayF, show w.n - (j + 1) = t by omega, show w.n - (t + 1) = j by omega]
theorem wayX_some {w : Ws} {nx : Int → Option (Int × Nat)} {t : Nat} {o : Int} {x : Nat} {c : Int} (h : wayX w nx t o x = some c) :
    ∃ r, w.lo ≤ o + x - w.due (t + 1) ∧ nx (o + x) = some r ∧ c = stepF w.k w.rates t x (o + x - w.due (t + 1)) + r.1 := by
  unfold wayX at h
  split at h
  · rename_i hl
    cases hn : nx (o + x) with
    | none => rw [hn] at h; cases h
    | some r => rw [hn] at h; cases h; exact ⟨r, hl, rfl, rfl⟩
  · cases h
theorem wayX_of {w : Ws} {nx : Int → Option (Int × Nat)} {t : Nat} {o : Int} {x : Nat} {r : Int × Nat} (h : w.lo ≤ o + x - w.due (t + 1)) (hr : nx (o + x) = some r) :
    wayX w nx t o x = some (stepF w.k w.rates t x (o + x - w.due (t + 1)) + r.1) := by
  unfold wayX; rw [if_pos h, hr]; rfl
theorem wayX_lo {w : Ws} {nx : Int → Option (Int × Nat)} {t : Nat} {o : Int} {x : Nat} (h : o + x - w.due (t + 1) < w.lo) : wayX w nx t o x = none := by
  unfold wayX; rw [if_neg (by omega)]
theorem wayX_no {w : Ws} {nx : Int → Option (Int × Nat)} {t : Nat} {o : Int} {x : Nat} (h : nx (o + x) = none) : wayX w nx t o x = none := by
  unfold wayX; rw [h]; split <;> rfl
theorem wayT_big (w : Ws) : ∀ (d t : Nat), t + d = w.n → ∀ o : Int, w.tot < o → wayT w t o = none := by
  intro d
  induction d with
  | zero => intro t h o ho; rw [show t = w.n by omega, wayT_end, if_neg (by omega)]
  | succ d ih =>
    intro t h o ho
    rw [wayT_s w (by omega)]
    cases hl : least (wayX w (wayT w (t + 1)) t o) (w.lim t + 1) with
    | none => rfl
    | some r =>
      obtain ⟨h1, h2, h3⟩ := least_some _ _ hl
      obtain ⟨q, _, hq, _⟩ := wayX_some h2
      rw [ih (t + 1) (by omega) _ (by omega)] at hq
      cases hq
theorem wayT_le {w : Ws} {t : Nat} (ht : t ≤ w.n) {o : Int} {r : Int × Nat} (h : wayT w t o = some r) : o ≤ w.tot := by
  rcases Int.lt_or_le w.tot o with h1 | h1
  · rw [wayT_big w (w.n - t) t (by omega) o h1] at h; cases h
  · exact h1

/-- What bounds the numbers of a search. -/
structure WsOk (w : Ws) : Prop where
  g : Good w.k
  ll : w.lims.length = w.n
  lims : ∀ x ∈ w.lims, 0 ≤ x ∧ x ≤ 160
  rates : ∀ x ∈ w.rates, 0 ≤ x ∧ x ≤ 9
  lo : -160 ≤ w.lo
theorem WsOk.tot {w : Ws} (h : WsOk w) : 0 ≤ w.tot ∧ w.tot ≤ 160 := by
  have := sumTo_bound (m := 20) (by omega) h.g.need w.n
  have := h.g.n8
  unfold Ws.tot
  have : w.n = w.k.need.length := rfl
  omega
theorem WsOk.due {w : Ws} (h : WsOk w) (t : Nat) (ht : t ≤ w.n) : 0 ≤ w.due t ∧ w.due t ≤ w.tot :=
  ⟨(sumTo_bound (m := 20) (by omega) h.g.need t).1, sumTo_mono (fun x hx => (h.g.need x hx).1) ht⟩
theorem WsOk.lim {w : Ws} (h : WsOk w) (t : Nat) : w.lim t ≤ 160 ∧ ((w.lim t : Nat) : Int) = w.lims.getD t 0 := by
  have := getD_bound (m := 160) (by omega) h.lims t
  unfold Ws.lim
  omega
theorem stepF_in {w : Ws} (h : WsOk w) (t : Nat) {x b : Int} (h0 : 0 ≤ x) (h1 : x ≤ 160) (hb : -160 ≤ b) (hb2 : b ≤ 320) : 0 ≤ stepF w.k w.rates t x b ∧ stepF w.k w.rates t x b ≤ 5000 := by
  have u := getD_bound (m := 9) (by omega) h.g.unit t
  have s := getD_bound (m := 99) (by omega) h.g.setup t
  have r := getD_bound (m := 9) (by omega) h.rates t
  have o := getD_bound (m := 9) (by omega) h.g.hold t
  have p1 := mul_bound u.1 u.2 h0 h1
  unfold stepF
  by_cases hn : b < 0
  · have p2 := mul_bound r.1 r.2 (b := -b) (n := 320) (by omega) (by omega)
    rw [if_pos hn]
    split <;> omega
  · have p2 := mul_bound o.1 o.2 (b := b) (n := 320) (by omega) (by omega)
    rw [if_neg hn]
    split <;> omega
theorem wayT_in {w : Ws} (h : WsOk w) : ∀ (d t : Nat), t + d = w.n → ∀ (o : Int) (r : Int × Nat), wayT w t o = some r → 0 ≤ r.1 ∧ r.1 ≤ 5000 * d ∧ r.2 ≤ 160 := by
  intro d
  induction d with
  | zero =>
    intro t ht o r hr
    rw [show t = w.n by omega, wayT_end] at hr
    split at hr
    · cases hr; simp
    · cases hr
  | succ d ih =>
    intro t ht o r hr
    rw [wayT_s w (by omega)] at hr
    obtain ⟨h1, h2, h3⟩ := least_some _ _ hr
    obtain ⟨q, g1, g2, g3⟩ := wayX_some h2
    have b1 := ih (t + 1) (by omega) _ _ g2
    have b2 := wayT_le (by omega) g2
    have b3 := h.due (t + 1) (by omega)
    have b4 := h.tot
    have b5 := (h.lim t).1
    have b6 := h.lo
    have b7 := stepF_in h t (x := (r.2 : Int)) (b := o + r.2 - w.due (t + 1)) (by omega) (by omega) (by omega) (by omega)
    rw [g3]
    have : (5000 * ((d + 1 : Nat) : Int)) = 5000 * d + 5000 := by omega
    omega
theorem wayT_bd {w : Ws} (h : WsOk w) {t : Nat} (ht : t ≤ w.n) {o : Int} {r : Int × Nat} (hr : wayT w t o = some r) : 0 ≤ r.1 ∧ r.1 ≤ 40000 ∧ r.2 ≤ 160 := by
  have := wayT_in h (w.n - t) t (by omega) o r hr
  have h8 := h.g.n8
  have : w.n = w.k.need.length := rfl
  omega

/-- What has been ordered before a period, and the amounts. -/
def amtW (w : Ws) (t : Nat) (o : Int) : Nat := match wayT w t o with
  | some r => r.2
  | none => 0
def ordW (w : Ws) : Nat → Int
  | 0 => 0
  | t + 1 => ordW w t + amtW w t (ordW w t)
def planW (w : Ws) : Nat → List Int
  | 0 => []
  | t + 1 => planW w t ++ [(amtW w t (ordW w t) : Int)]
theorem planW_len (w : Ws) (t : Nat) : (planW w t).length = t := by
  induction t with
  | zero => rfl
  | succ t ih => simp [planW, ih]
theorem amtW_some {w : Ws} {t : Nat} {o : Int} {r : Int × Nat} (h : wayT w t o = some r) : amtW w t o = r.2 := by unfold amtW; rw [h]
/-- On the way, each amount has the least cost. -/
theorem way_on {w : Ws} (h : ∃ r, wayT w 0 0 = some r) : ∀ t, t ≤ w.n → ∃ r, wayT w t (ordW w t) = some r := by
  intro t
  induction t with
  | zero => intro _; exact h
  | succ t ih =>
    intro ht
    obtain ⟨r, hr⟩ := ih (by omega)
    rw [ordW, amtW_some hr]
    rw [wayT_s w (by omega)] at hr
    obtain ⟨h1, h2, h3⟩ := least_some _ _ hr
    obtain ⟨q, _, hq, _⟩ := wayX_some h2
    exact ⟨q, hq⟩
theorem ordW_in {w : Ws} (h : ∃ r, wayT w 0 0 = some r) {t : Nat} (ht : t ≤ w.n) : 0 ≤ ordW w t ∧ ordW w t ≤ w.tot := by
  obtain ⟨r, hr⟩ := way_on h t ht
  refine ⟨?_, wayT_le ht hr⟩
  clear hr ht
  induction t with
  | zero => simp [ordW]
  | succ t ih => rw [ordW]; omega

/-- Short of stock: the sum of all limits up to a period less that of the needs. -/
def spareF (w : Ws) (t : Nat) : Int := sumTo w.lims t - w.due t
/-- With limits that are enough, there is a way. -/
theorem way_can {w : Ws} (h : WsOk w) (h0 : w.lo ≤ 0) (hc : ∀ t, t ≤ w.n → 0 ≤ spareF w t) : ∀ (d t : Nat), t + d = w.n → ∀ o : Int, o ≤ w.tot → (∀ s, t ≤ s → s ≤ w.n → w.due s ≤ o + sumR w.lims t s) → ∃ r, wayT w t o = some r := by
  intro d
  induction d with
  | zero =>
    intro t ht o ho hs
    have := hs w.n (by omega) (Nat.le_refl _)
    rw [show t = w.n by omega, sumR_self] at this
    rw [show t = w.n by omega, wayT_end]
    have e : w.tot = w.due w.n := rfl
    exact ⟨_, if_pos (by omega)⟩
  | succ d ih =>
    intro t ht o ho hs
    obtain ⟨hl1, hl2⟩ := h.lim t
    have hd1 := h.due (t + 1) (by omega)
    -- as much as the limit allows and is still open
    have key : ∃ x : Nat, x ≤ w.lim t ∧ o + x ≤ w.tot ∧ ∀ s, t + 1 ≤ s → s ≤ w.n → w.due s ≤ o + x + sumR w.lims (t + 1) s := by
      by_cases hx : o + w.lim t ≤ w.tot
      · refine ⟨w.lim t, Nat.le_refl _, hx, fun s h1 h2 => ?_⟩
        have := hs s (by omega) h2
        rw [sumR_h] at this
        omega
      · refine ⟨(w.tot - o).toNat, by omega, by omega, fun s h1 h2 => ?_⟩
        have := (h.due s h2).2
        have := sumR_nn (m := 160) (by omega) h.lims h1
        omega
    obtain ⟨x, hx1, hx2, hx3⟩ := key
    obtain ⟨r, hr⟩ := ih (t + 1) (by omega) (o + x) hx2 hx3
    have hlow : w.lo ≤ o + x - w.due (t + 1) := by
      have := hx3 (t + 1) (Nat.le_refl _) (by omega)
      rw [sumR_self] at this
      omega
    rw [wayT_s w (by omega)]
    exact least_ex (y := x) (by omega) (wayX_of hlow hr)
theorem way_can0 {w : Ws} (h : WsOk w) (h0 : w.lo ≤ 0) (hc : ∀ t, t ≤ w.n → 0 ≤ spareF w t) : ∃ r, wayT w 0 0 = some r := by
  refine way_can h h0 hc w.n 0 (by omega) 0 h.tot.1 fun s _ hs => ?_
  have := hc s hs
  unfold spareF at this
  have e : sumR w.lims 0 s = sumTo w.lims s := by unfold sumR; rw [sumTo_zero]; omega
  omega
/-- Without a way, no end: what is found is the first amount with the least cost. -/
theorem way_first {w : Ws} {t : Nat} (ht : t < w.n) {o : Int} {r : Int × Nat} (hr : wayT w t o = some r) (y : Nat) (hy : y < r.2) : wayX w (wayT w (t + 1)) t o y ≠ some r.1 := by
  rw [wayT_s w ht] at hr
  obtain ⟨h1, h2, h3⟩ := least_some _ _ hr
  intro hc
  have := (h3 y _ (by omega) hc).2 hy
  omega
/-- The bound of what is open changes nothing. -/
theorem way_open {w : Ws} {t : Nat} (ht : t < w.n) {o : Int} (ho : o ≤ w.tot) : wayT w t o = least (wayX w (wayT w (t + 1)) t o) ((min (w.lim t : Int) (w.tot - o)).toNat + 1) := by
  rw [wayT_s w ht]
  refine least_cut (by omega) fun x h1 h2 => wayX_no (wayT_big w (w.n - (t + 1)) (t + 1) (by omega) _ (by omega))

/-- An optional cost as a number: -1 is greater than all others. -/
def vO : Option (Int × Nat) → Int
  | some r => r.1
  | none => -1
def leastV (a b : Int) : Int := if a < 0 ∨ (0 ≤ b ∧ b < a) then b else a
theorem vO_step {f : Nat → Option Int} {x : Nat} {c : Int} (h : f x = some c) (hc : 0 ≤ c) (hp : ∀ r, least f x = some r → 0 ≤ r.1) : vO (least f (x + 1)) = leastV (vO (least f x)) c := by
  rw [least_yes h]
  cases hl : least f x with
  | none => simp [vO, leastV]
  | some b =>
    have := hp b hl
    have e : leastV (vO (some b)) c = if b.1 < 0 ∨ (0 ≤ c ∧ c < b.1) then c else b.1 := rfl
    rw [e]
    by_cases hcb : c < b.1
    · rw [if_pos (by omega)]
      show vO (if c < b.1 then some (c, x) else some b) = c
      rw [if_pos hcb]; rfl
    · rw [if_neg (by omega)]
      show vO (if c < b.1 then some (c, x) else some b) = b.1
      rw [if_neg hcb]; rfl
theorem vO_pos {o : Option (Int × Nat)} (hp : ∀ r, o = some r → 0 ≤ r.1) : (0 ≤ vO o ↔ ∃ r, o = some r) ∧ -1 ≤ vO o := by
  cases o with
  | none => simp [vO]
  | some r => have := hp r rfl; simp only [vO]; exact ⟨⟨fun _ => ⟨r, rfl⟩, fun _ => this⟩, by omega⟩
end Go.Proofs.Ytiggehfopfpkbaa
