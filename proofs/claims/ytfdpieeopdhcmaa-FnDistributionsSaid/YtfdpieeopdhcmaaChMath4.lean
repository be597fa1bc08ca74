/- One period with chances: more and wider distributions, sums of demands. -/
import Derived.Test.YtfdpieeopdhcmaaChMath2
namespace Go.Proofs.Ytfdpieeopdhcmaa
set_option linter.unusedVariables false

theorem le_of_mul_pos {a b c : Int} (hc : 0 < c) (h : a * c ≤ b * c) : a ≤ b := Int.le_of_mul_le_mul_right h hc
/-- What is more has no less a critical order. -/
theorem more_crit {a b : List Int} {o u : Int} (ha : Dist a) (hb : Dist b) (ho : 0 ≤ o) (hu : 0 ≤ u) (h : ∀ q, q < 16 → upF a q * tot b ≤ upF b q * tot a) : critF b o u ≤ critF a o u := by
  obtain ⟨a1, a2⟩ := crit_spec (w := a) (o := o) (u := u) ha ho
  obtain ⟨b1, b2⟩ := crit_spec (w := b) (o := o) (u := u) hb ho
  have hc := crit_le (u := u) ha ho
  rcases Nat.lt_or_ge (critF a o u) (critF b o u) with c | c
  · exfalso
    have hl := b2 _ c
    have hq := h (critF a o u) (by omega)
    generalize critF a o u = p at *
    unfold low at a1 hl
    have ta := (tot_in ha).1
    have tb := (tot_in hb).1
    have e1 : (o + u) * (upF a p * tot b) ≤ (o + u) * (upF b p * tot a) := Int.mul_le_mul_of_nonneg_left hq (by omega)
    have e2 : u * tot a * tot b ≤ (o + u) * upF a p * tot b := Int.mul_le_mul_of_nonneg_right (by omega) (by omega)
    have e3 : (o + u) * upF b p * tot a < u * tot b * tot a := Int.mul_lt_mul_of_pos_right hl (by omega)
    rw [← Int.mul_assoc, ← Int.mul_assoc] at e1
    have e4 : u * tot b * tot a = u * tot a * tot b := by rw [Int.mul_assoc, Int.mul_assoc, Int.mul_comm (tot b)]
    omega
  · exact c
theorem cost_short (w : List Int) (o u : Int) (q : Nat) : costF w o u q = (o + u) * shortS w q + o * ((q : Int) * tot w - shortS w 0) := by
  have := off_mean w q
  unfold costF
  rw [show overS w q = shortS w q + ((q : Int) * tot w - shortS w 0) by omega, Int.mul_add, Int.add_mul]
  omega
/-- What is wider costs no less. -/
theorem wider_cost {c d : List Int} {o u : Int} (hc : Dist c) (hd : Dist d) (ho : 0 ≤ o) (hu : 0 ≤ u) (hm : shortS c 0 * tot d = shortS d 0 * tot c) (h : ∀ q, q < 16 → shortS d q * tot c ≤ shortS c q * tot d) :
    costF d o u (critF d o u) * tot c ≤ costF c o u (critF c o u) * tot d := by
  have hp := crit_le (u := u) hc ho
  have hq := h (critF c o u) (by omega)
  have hl := crit_least hd ho hu (critF c o u)
  generalize critF c o u = p at *
  have tc := (tot_in hc).1
  have e1 : costF d o u (critF d o u) * tot c ≤ costF d o u p * tot c := Int.mul_le_mul_of_nonneg_right hl (by omega)
  refine Int.le_trans e1 ?_
  rw [cost_short d, cost_short c, Int.add_mul ((o + u) * shortS d p), Int.add_mul ((o + u) * shortS c p)]
  have e2 : (o + u) * (shortS d p * tot c) ≤ (o + u) * (shortS c p * tot d) := Int.mul_le_mul_of_nonneg_left hq (by omega)
  rw [← Int.mul_assoc, ← Int.mul_assoc] at e2
  have e3 : o * ((p : Int) * tot d - shortS d 0) * tot c = o * ((p : Int) * tot c - shortS c 0) * tot d := by
    rw [Int.mul_assoc, Int.mul_assoc, Int.sub_mul, Int.sub_mul, hm, Int.mul_assoc, Int.mul_assoc, Int.mul_comm (tot d)]
  omega

/-! Sums. -/
theorem wsum_mono {w : List Int} (h : Dist w) {f g : Nat → Int} (k : Nat) (hfg : ∀ d, d < k → f d ≤ g d) : wsum w f k ≤ wsum w g k := by
  induction k with
  | zero => exact Int.le_refl _
  | succ k ih =>
    rw [wsum_s, wsum_s]
    have := Int.mul_le_mul_of_nonneg_left (hfg k (by omega)) (h.at_ k).1
    have := ih fun d hd => hfg d (by omega)
    omega
theorem wsum_cong {w : List Int} {f g : Nat → Int} (k : Nat) (hfg : ∀ d, d < k → f d = g d) : wsum w f k = wsum w g k := by
  induction k with
  | zero => rfl
  | succ k ih => rw [wsum_s, wsum_s, ih fun d hd => hfg d (by omega), hfg k (by omega)]
theorem wsum_add (w : List Int) (f g : Nat → Int) (k : Nat) : wsum w (fun d => f d + g d) k = wsum w f k + wsum w g k := by
  induction k with
  | zero => rfl
  | succ k ih => rw [wsum_s, wsum_s, wsum_s, ih, Int.mul_add]; omega
theorem wsum_mul (w : List Int) (c : Int) (f : Nat → Int) (k : Nat) : wsum w (fun d => f d * c) k = wsum w f k * c := by
  induction k with
  | zero => simp [wsum]
  | succ k ih => rw [wsum_s, wsum_s, ih, Int.add_mul, Int.mul_assoc]
theorem wsum_one {w : List Int} (k : Nat) (hk : k ≤ w.length) : wsum w (fun _ => 1) k = sumTo w k := by
  induction k with
  | zero => simp [wsum, sumTo]
  | succ k ih => rw [wsum_s, ih (by omega), sumTo_sD (by omega)]; omega
theorem wsum_const {w : List Int} (c : Int) : wsum w (fun _ => c) w.length = tot w * c := by
  have : wsum w (fun _ => 1 * c) w.length = wsum w (fun _ => 1) w.length * c := wsum_mul w c (fun _ => 1) w.length
  rw [wsum_one _ (Nat.le_refl _)] at this
  rw [wsum_cong (g := fun _ => 1 * c) _ (fun _ _ => by simp), this]; rfl
theorem wsum_set {l : List Int} {p : Nat} (hp : p < l.length) (v : Int) (f : Nat → Int) (n : Nat) : wsum (l.set p (l.getD p 0 + v)) f n = wsum l f n + (if p < n then v * f p else 0) := by
  induction n with
  | zero => simp [wsum]
  | succ n ih =>
    rw [wsum_s, wsum_s, ih, getD_set hp]
    by_cases e : n = p
    · subst e
      rw [if_pos rfl, if_neg (by omega), if_pos (by omega), Int.add_mul]; omega
    · rw [if_neg e]
      by_cases e2 : p < n
      · rw [if_pos e2, if_pos (by omega)]; omega
      · rw [if_neg e2, if_neg (by omega)]; omega
theorem convIn_sum (b : List Int) (x : Int) (i : Nat) (l : List Int) (f : Nat → Int) (k : Nat) (hk : i + k ≤ l.length) : wsum (convIn b x i k l) f l.length = wsum l f l.length + x * wsum b (fun j => f (i + j)) k := by
  induction k with
  | zero => simp [convIn, wsum]
  | succ k ih =>
    rw [convIn, wsum_set (by rw [convIn_len]; omega), ih (by omega), if_pos (by omega), wsum_s, Int.mul_add, ← Int.mul_assoc]
    omega
theorem convTo_sum (a b : List Int) (f : Nat → Int) (i : Nat) (hi : i ≤ a.length) (hb : 1 ≤ b.length) : wsum (convTo a b i) f (a.length + b.length - 1) = wsum a (fun i' => wsum b (fun j => f (i' + j)) b.length) i := by
  induction i with
  | zero =>
    simp only [convTo, wsum]
    generalize a.length + b.length - 1 = n
    have : ∀ k, wsum (List.replicate n 0) f k = 0 := by
      intro k
      induction k with
      | zero => rfl
      | succ k ih =>
        rw [wsum_s, ih, List.getD_eq_getElem?_getD, List.getElem?_replicate]
        split <;> simp
    exact this n
  | succ i ih =>
    have hl := convTo_len a b i
    have := convIn_sum b (a.getD i 0) i (convTo a b i) f b.length (by rw [hl]; omega)
    rw [hl] at this
    rw [convTo, this, ih (by omega), wsum_s]
theorem conv_sum {a b : List Int} (hb : 1 ≤ b.length) (f : Nat → Int) : wsum (convTo a b a.length) f (convTo a b a.length).length = wsum a (fun i => wsum b (fun j => f (i + j)) b.length) a.length := by
  rw [convTo_len]; exact convTo_sum a b f _ (Nat.le_refl _) hb
theorem conv_tot {a b : List Int} (ha : Dist a) (hb : Dist b) : tot (convTo a b a.length) = tot a * tot b := by
  have h := conv_sum (a := a) hb.len (fun _ => 1)
  rw [wsum_one _ (Nat.le_refl _)] at h
  rw [show tot (convTo a b a.length) = sumTo (convTo a b a.length) (convTo a b a.length).length from rfl, h, wsum_one _ (Nat.le_refl _), wsum_const]; rfl
theorem mean_sum (w : List Int) : shortS w 0 = wsum w (fun d => (d : Int)) w.length := by
  unfold shortS shortF
  exact wsum_cong _ fun d _ => by omega
theorem conv_mean {a b : List Int} (ha : Dist a) (hb : Dist b) : shortS (convTo a b a.length) 0 = shortS a 0 * tot b + shortS b 0 * tot a := by
  rw [mean_sum, mean_sum, mean_sum, conv_sum hb.len]
  have e1 : wsum a (fun i => wsum b (fun j => ((i + j : Nat) : Int)) b.length) a.length = wsum a (fun i => (i : Int) * tot b + wsum b (fun j => (j : Int)) b.length) a.length := by
    refine wsum_cong _ fun i _ => ?_
    rw [wsum_cong (g := fun j => (i : Int) + (j : Int)) _ (fun j _ => by omega), wsum_add, wsum_const, Int.mul_comm]
  rw [e1, wsum_add, wsum_mul, wsum_const, Int.mul_comm (tot a)]
theorem conv_part {a b : List Int} (ha : Dist a) (hb : Dist b) {f fa fb : Nat → Int} (h : ∀ i j, f (i + j) ≤ fa i + fb j) :
    wsum (convTo a b a.length) f (convTo a b a.length).length ≤ wsum a fa a.length * tot b + wsum b fb b.length * tot a := by
  rw [conv_sum hb.len]
  have e1 : wsum a (fun i => wsum b (fun j => f (i + j)) b.length) a.length ≤ wsum a (fun i => fa i * tot b + wsum b fb b.length) a.length := by
    refine wsum_mono ha _ fun i _ => ?_
    have : wsum b (fun j => f (i + j)) b.length ≤ wsum b (fun j => fa i + fb j) b.length := wsum_mono hb _ fun j _ => h i j
    rw [wsum_add, wsum_const, Int.mul_comm] at this
    exact this
  rw [wsum_add, wsum_mul, wsum_const, Int.mul_comm (tot a)] at e1
  exact e1
/-- A sum of demands costs no more than both apart. -/
theorem conv_cost {a b : List Int} {o u : Int} (ha : Dist a) (hb : Dist b) (hs : Dist (convTo a b a.length)) (ho : 0 ≤ o) (hu : 0 ≤ u) :
    costF (convTo a b a.length) o u (critF (convTo a b a.length) o u) ≤ costF a o u (critF a o u) * tot b + costF b o u (critF b o u) * tot a := by
  refine Int.le_trans (crit_least hs ho hu (critF a o u + critF b o u)) ?_
  generalize critF a o u = p
  generalize critF b o u = q
  have h1 : overS (convTo a b a.length) (p + q) ≤ overS a p * tot b + overS b q * tot a := conv_part ha hb (f := fun d => max 0 (((p + q : Nat) : Int) - d)) (fa := fun d => max 0 ((p : Int) - d)) (fb := fun d => max 0 ((q : Int) - d)) fun i j => by omega
  have h2 : shortS (convTo a b a.length) (p + q) ≤ shortS a p * tot b + shortS b q * tot a := conv_part ha hb (f := fun d => max 0 ((d : Int) - ((p + q : Nat) : Int))) (fa := fun d => max 0 ((d : Int) - p)) (fb := fun d => max 0 ((d : Int) - q)) fun i j => by omega
  unfold costF
  have e1 := Int.mul_le_mul_of_nonneg_left h1 ho
  have e2 := Int.mul_le_mul_of_nonneg_left h2 hu
  rw [Int.mul_add, ← Int.mul_assoc, ← Int.mul_assoc] at e1 e2
  rw [Int.add_mul, Int.add_mul]
  omega
end Go.Proofs.Ytfdpieeopdhcmaa
