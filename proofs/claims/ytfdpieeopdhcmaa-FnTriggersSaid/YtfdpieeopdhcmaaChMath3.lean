/- One period with chances: levels and triggers. -/
import Derived.Test.YtfdpieeopdhcmaaChMath2
namespace Go.Proofs.Ytfdpieeopdhcmaa
set_option linter.unusedVariables false

/-- The cost of beginning a period with y, without a setup. -/
def gF (w : List Int) (o u un : Int) (y : Nat) : Int := costF w o u y + tot w * un * y
theorem gF_next (w : List Int) (o u un : Int) (y : Nat) : gF w o u un (y + 1) = gF w o u un y + ((o + u) * upF w y - u * tot w + tot w * un) := by
  unfold gF
  rw [cost_next, Int.natCast_add, Int.mul_add]
  generalize (o + u) * upF w y = a
  generalize tot w * un * (y : Int) = b
  simp
  omega
theorem gF_rise {w : List Int} {o u un : Int} (h : Dist w) (ho : 0 ≤ o) (hu : 0 ≤ u) {y : Nat} (hy : gF w o u un y ≤ gF w o u un (y + 1)) (n : Nat) : gF w o u un (y + 1) ≤ gF w o u un (y + 1 + n) := by
  induction n with
  | zero => exact Int.le_refl _
  | succ n ih =>
    have h1 := gF_next w o u un y
    have h2 := gF_next w o u un (y + 1 + n)
    have h3 := Int.mul_le_mul_of_nonneg_left (up_mono h (show y ≤ y + 1 + n by omega)) (by omega : 0 ≤ o + u)
    rw [← Nat.add_assoc]
    omega
theorem begun_lo (w : List Int) (o u un s : Int) (stock : Nat) : begunF w o u un s stock stock = gF w o u un stock := by
  unfold begunF gF; rw [if_neg (by omega)]; omega
theorem begun_hi (w : List Int) (o u un s : Int) {stock y : Nat} (h : stock < y) : begunF w o u un s stock y = gF w o u un y + tot w * s := by
  unfold begunF gF; rw [if_pos h]
/-- The first one of the best. -/
structure First (f : Nat → Int) (a b z : Nat) : Prop where
  lo : a ≤ z
  hi : z ≤ b
  le : ∀ t, a ≤ t → t ≤ b → f z ≤ f t
  lt : ∀ t, a ≤ t → t < z → f z < f t
theorem First.uniq {f : Nat → Int} {a b z z' : Nat} (h : First f a b z) (h' : First f a b z') : z = z' := by
  rcases Nat.lt_trichotomy z z' with c | c | c
  · have := h'.lt z h.lo c
    have := h.le z' h'.lo h'.hi
    omega
  · exact c
  · have := h.lt z' h'.lo c
    have := h'.le z h.lo h.hi
    omega
theorem levTo_first (w : List Int) (o u un s : Int) (stock n : Nat) : First (begunF w o u un s stock) stock (stock + n) (levTo w o u un s stock n) := by
  induction n with
  | zero => exact ⟨Nat.le_refl _, Nat.le_refl _, fun t h1 h2 => by rw [show t = stock by simp at h2; omega, levTo]; exact Int.le_refl _, fun t h1 h2 => by simp only [levTo] at h2; omega⟩
  | succ n ih =>
    rw [levTo]
    split
    · rename_i hc
      refine ⟨by omega, by omega, fun t h1 h2 => ?_, fun t h1 h2 => ?_⟩
      · by_cases e : t = stock + n + 1
        · rw [e]; exact Int.le_refl _
        · have := ih.le t h1 (by omega); omega
      · have := ih.le t h1 (by omega); omega
    · rename_i hc
      have i1 := ih.lo
      have i2 := ih.hi
      refine ⟨i1, by omega, fun t h1 h2 => ?_, ih.lt⟩
      by_cases e : t = stock + n + 1
      · rw [e]; omega
      · exact ih.le t h1 (by omega)
theorem lev_first (w : List Int) (o u un s : Int) {stock : Nat} (h : stock ≤ 15) : First (begunF w o u un s stock) stock 15 (levF w o u un s stock) := by
  have := levTo_first w o u un s stock (15 - stock)
  rwa [show stock + (15 - stock) = 15 by omega] at this
theorem lev_down {w : List Int} {o u un s : Int} (h : Dist w) (ho : 0 ≤ o) (hu : 0 ≤ u) (hs : 0 ≤ s) {y : Nat} (hy : y + 1 ≤ 15) (hl : y + 1 < levF w o u un s (y + 1)) : levF w o u un s y = levF w o u un s (y + 1) := by
  have f := lev_first w o u un s hy
  have fy := lev_first w o u un s (stock := y) (by omega)
  refine fy.uniq ?_
  generalize levF w o u un s (y + 1) = z at *
  have hK : 0 ≤ tot w * s := Int.mul_nonneg (by have := (tot_in h).1; omega) hs
  have a1 := f.lt (y + 1) (Nat.le_refl _) hl
  rw [begun_lo, begun_hi w o u un s hl] at a1
  have a2 : gF w o u un (y + 1) ≤ gF w o u un y := by
    rcases Int.le_total (gF w o u un (y + 1)) (gF w o u un y) with c | c
    · exact c
    · have := gF_rise h ho hu c (z - (y + 1))
      rw [show y + 1 + (z - (y + 1)) = z by omega] at this
      omega
  refine ⟨by omega, f.hi, fun t h1 h2 => ?_, fun t h1 h2 => ?_⟩
  · rw [begun_hi w o u un s (show y < z by omega)]
    by_cases e : t = y
    · rw [e, begun_lo]; omega
    · rw [begun_hi w o u un s (show y < t by omega)]
      by_cases e1 : t = y + 1
      · rw [e1]; omega
      · have := f.le t (by omega) h2
        rw [begun_hi w o u un s hl, begun_hi w o u un s (show y + 1 < t by omega)] at this
        exact this
  · rw [begun_hi w o u un s (show y < z by omega)]
    by_cases e : t = y
    · rw [e, begun_lo]; omega
    · rw [begun_hi w o u un s (show y < t by omega)]
      by_cases e1 : t = y + 1
      · rw [e1]; omega
      · have := f.lt t (by omega) h2
        rw [begun_hi w o u un s hl, begun_hi w o u un s (show y + 1 < t by omega)] at this
        exact this
/-- With no unit cost and no setup the level is the critical order, from each less stock on. -/
theorem lev_crit {w : List Int} {o u : Int} (h : Dist w) (ho : 0 ≤ o) (hu : 0 ≤ u) {stock : Nat} (hs : stock ≤ critF w o u) : levF w o u 0 0 stock = critF w o u := by
  have hc := crit_le (u := u) h ho
  have e : ∀ y, begunF w o u 0 0 stock y = costF w o u y := fun y => by
    unfold begunF; split <;> simp
  refine (lev_first w o u 0 0 (stock := stock) (by omega)).uniq ⟨hs, hc, fun t h1 h2 => ?_, fun t h1 h2 => ?_⟩
  · rw [e, e]; exact crit_least h ho hu t
  · rw [e, e]; exact before_crit h ho hu h2
theorem trig_spec (w : List Int) (o u un s : Int) (n : Nat) : (trigTo w o u un s n = -1 ∧ ∀ y, y < n → ¬ y < levF w o u un s y) ∨
    (∃ k : Nat, trigTo w o u un s n = k ∧ k < n ∧ k < levF w o u un s k ∧ ∀ y, k < y → y < n → ¬ y < levF w o u un s y) := by
  induction n with
  | zero => exact .inl ⟨rfl, fun y hy => absurd hy (by omega)⟩
  | succ n ih =>
    rw [trigTo]
    by_cases hc : n < levF w o u un s n
    · rw [if_pos hc]
      exact .inr ⟨n, rfl, by omega, hc, fun y h1 h2 => absurd h1 (by omega)⟩
    · rw [if_neg hc]
      rcases ih with ⟨h1, h2⟩ | ⟨k, h1, h2, h3, h4⟩
      · refine .inl ⟨h1, fun y hy => ?_⟩
        by_cases e : y = n
        · rw [e]; exact hc
        · exact h2 y (by omega)
      · refine .inr ⟨k, h1, by omega, h3, fun y hk hy => ?_⟩
        by_cases e : y = n
        · rw [e]; exact hc
        · exact h4 y hk (by omega)
theorem trig_all {w : List Int} {o u un s : Int} (h : Dist w) (ho : 0 ≤ o) (hu : 0 ≤ u) (hs : 0 ≤ s) :
    ∃ V : Nat, V ≤ 15 ∧ ∀ y, y ≤ 15 → ((y < levF w o u un s y) ↔ (y : Int) ≤ trigTo w o u un s 16) ∧ (y < levF w o u un s y → levF w o u un s y = V) := by
  rcases trig_spec w o u un s 16 with ⟨h1, h2⟩ | ⟨k, h1, h2, h3, h4⟩
  · exact ⟨0, by omega, fun y hy => ⟨⟨fun hl => absurd hl (h2 y (by omega)), fun hl => by omega⟩, fun hl => absurd hl (h2 y (by omega))⟩⟩
  · have dn : ∀ j, j ≤ k → (k - j < levF w o u un s (k - j) ∧ levF w o u un s (k - j) = levF w o u un s k) := by
      intro j
      induction j with
      | zero => intro _; exact ⟨h3, rfl⟩
      | succ j ih =>
        intro hj
        obtain ⟨i1, i2⟩ := ih (by omega)
        have e : k - j = k - (j + 1) + 1 := by omega
        rw [e] at i1 i2
        have := lev_down h ho hu hs (y := k - (j + 1)) (by omega) i1
        exact ⟨by omega, by rw [this]; exact i2⟩
    have hk := lev_in w o u un s (stock := k) (by omega)
    refine ⟨levF w o u un s k, hk.2, fun y hy => ?_⟩
    by_cases e : y ≤ k
    · obtain ⟨d1, d2⟩ := dn (k - y) (by omega)
      rw [show k - (k - y) = y by omega] at d1 d2
      exact ⟨⟨fun _ => by omega, fun _ => d1⟩, fun _ => d2⟩
    · exact ⟨⟨fun hl => absurd hl (h4 y (by omega) (by omega)), fun hl => by omega⟩, fun hl => absurd hl (h4 y (by omega) (by omega))⟩
end Go.Proofs.Ytfdpieeopdhcmaa
