/- One period with chances: over and short sums differ by what an order is off the mean; the best orders follow one another. -/
import Derived.Test.YtfdpieeopdhcmaaChMath
namespace Go.Proofs.Ytfdpieeopdhcmaa
set_option linter.unusedVariables false

theorem over_short (w : List Int) (q k : Nat) (hk : k ≤ w.length) : overF w q k - shortF w q k = (q : Int) * sumTo w k - shortF w 0 k := by
  induction k with
  | zero => simp [overF, shortF, wsum, sumTo]
  | succ k ih =>
    have h1 := ih (by omega)
    rw [over_s, short_s, short_s, sumTo_sD (by omega), Int.mul_add]
    have e : w.getD k 0 * max 0 ((q : Int) - k) - w.getD k 0 * max 0 ((k : Int) - q) = (q : Int) * w.getD k 0 - w.getD k 0 * max 0 ((k : Int) - ((0 : Nat) : Int)) := by
      rw [← Int.mul_sub, show max 0 ((q : Int) - k) - max 0 ((k : Int) - q) = (q : Int) - k by omega, show max 0 ((k : Int) - ((0 : Nat) : Int)) = (k : Int) by omega, Int.mul_sub, Int.mul_comm (w.getD k 0) q]
    omega
theorem off_mean (w : List Int) (q : Nat) : overS w q - shortS w q = (q : Int) * tot w - shortS w 0 := over_short w q _ (Nat.le_refl _)

theorem before_crit {w : List Int} {o u : Int} (h : Dist w) (ho : 0 ≤ o) (hu : 0 ≤ u) {q : Nat} (hq : q < critF w o u) : costF w o u (critF w o u) < costF w o u q := by
  obtain ⟨a, b⟩ := crit_spec (w := w) (o := o) (u := u) h ho
  have h1 := b q hq
  have h2 := cost_next w o u q
  have h3 := crit_least h ho hu (q + 1)
  unfold low at h1
  omega
theorem behind_crit {w : List Int} {o u : Int} (h : Dist w) (ho : 0 ≤ o) (hu : 0 ≤ u) {q : Nat} (hq : critF w o u ≤ q) : costF w o u q ≤ costF w o u (q + 1) := by
  obtain ⟨a, b⟩ := crit_spec (w := w) (o := o) (u := u) h ho
  have h1 : ¬ low w o u q := fun hl => a (low_mono h ho hu hq hl)
  have h2 := cost_next w o u q
  unfold low at h1
  omega
/-- The numbers from c on. -/
def riseL (c : Nat) (k : Nat) : List Int := (List.range k).map fun j => ((c + j : Nat) : Int)
theorem riseL_s (c k : Nat) : riseL c (k + 1) = riseL c k ++ [((c + k : Nat) : Int)] := by
  unfold riseL; rw [List.range_succ, List.map_append]; rfl
theorem best_run {w : List Int} {o u : Int} (h : Dist w) (ho : 0 ≤ o) (hu : 0 ≤ u) (n : Nat) :
    (n ≤ critF w o u → bestTo w o u n = []) ∧ (critF w o u < n → ∃ k, 1 ≤ k ∧ critF w o u + k ≤ n ∧ bestTo w o u n = riseL (critF w o u) k ∧ (critF w o u + k < n → costF w o u (critF w o u) < costF w o u (n - 1))) := by
  induction n with
  | zero => exact ⟨fun _ => rfl, fun hh => absurd hh (by omega)⟩
  | succ n ih =>
    obtain ⟨i1, i2⟩ := ih
    refine ⟨fun hn => ?_, fun hn => ?_⟩
    · have := before_crit h ho hu (q := n) (by omega)
      rw [bestTo, if_neg (by simp only [beq_iff_eq]; omega)]
      exact i1 (by omega)
    · by_cases e : n = critF w o u
      · refine ⟨1, Nat.le_refl _, by omega, ?_, fun hh => absurd hh (by omega)⟩
        rw [bestTo, if_pos (by rw [e]; simp), i1 (by omega), e]
        simp [riseL]
      · obtain ⟨k, k1, k2, k3, k4⟩ := i2 (by omega)
        have hb := behind_crit h ho hu (q := n - 1) (by omega)
        have hl := crit_least h ho hu n
        rw [show n - 1 + 1 = n by omega] at hb
        by_cases hc : costF w o u n = costF w o u (critF w o u)
        · have hk : critF w o u + k = n := by
            rcases Nat.lt_or_ge (critF w o u + k) n with g | g
            · have := k4 g; omega
            · omega
          refine ⟨k + 1, by omega, by omega, ?_, fun hh => absurd hh (by omega)⟩
          rw [bestTo, if_pos (by simp only [beq_iff_eq]; exact hc), k3, riseL_s, hk]
        · refine ⟨k, k1, by omega, ?_, fun _ => by rw [show n + 1 - 1 = n by omega]; omega⟩
          rw [bestTo, if_neg (by simp only [beq_iff_eq]; exact hc), k3]
theorem riseL_len (c k : Nat) : (riseL c k).length = k := by simp [riseL]
theorem riseL_at {c k j : Nat} (h : j < k) : (riseL c k).getD j 0 = ((c + j : Nat) : Int) := by
  simp [riseL, List.getD_eq_getElem?_getD, h]
theorem best_all {w : List Int} {o u : Int} (h : Dist w) (ho : 0 ≤ o) (hu : 0 ≤ u) : ∃ k, 1 ≤ k ∧ k ≤ 16 ∧ bestTo w o u 16 = riseL (critF w o u) k := by
  have hc := crit_le (u := u) h ho
  obtain ⟨k, k1, k2, k3, _⟩ := (best_run h ho hu 16).2 (by omega)
  exact ⟨k, k1, by omega, k3⟩
end Go.Proofs.Ytfdpieeopdhcmaa
