/- One period with chances as lists of integers: distributions, weighted sums, critical and best orders, sums of demands, levels. -/
import Derived.Test.YtghaogfhmbjlkaaLotMath
namespace Go.Proofs.Ytghaogfhmbjlkaa
set_option linter.unusedVariables false

theorem sumTo_sD {l : List Int} {k : Nat} (h : k < l.length) : sumTo l (k + 1) = sumTo l k + l.getD k 0 := by
  rw [sumTo_succ (List.getElem?_eq_getElem h), List.getD_eq_getElem?_getD, List.getElem?_eq_getElem h]; rfl

/-- A distribution. -/
def distB (w : List Int) : Bool := decide (w.length ≤ 16) && rowB w w.length 1000 && decide (0 < sumTo w w.length)
structure Dist (w : List Int) : Prop where
  l16 : w.length ≤ 16
  wt : ∀ x ∈ w, 0 ≤ x ∧ x ≤ 1000
  pos : 0 < sumTo w w.length
theorem dist_iff {w : List Int} : distB w = true ↔ Dist w := by
  simp only [distB, Bool.and_eq_true, decide_eq_true_eq, rowB_iff]
  exact ⟨fun h => ⟨h.1.1, h.1.2.1, h.2⟩, fun h => ⟨⟨h.l16, h.wt, by trivial⟩, h.pos⟩⟩
theorem Dist.at_ {w : List Int} (h : Dist w) (k : Nat) : 0 ≤ w.getD k 0 ∧ w.getD k 0 ≤ 1000 := by
  by_cases hk : k < w.length
  · rw [List.getD_eq_getElem?_getD, List.getElem?_eq_getElem hk]; exact h.wt _ (List.getElem_mem hk)
  · rw [List.getD_eq_getElem?_getD, List.getElem?_eq_none (by omega)]; exact ⟨by decide, by decide⟩
theorem Dist.len {w : List Int} (h : Dist w) : 1 ≤ w.length := by
  have := h.pos
  rcases Nat.eq_zero_or_pos w.length with e | e
  · rw [e, sumTo_zero] at this; omega
  · exact e
theorem Dist.sum {w : List Int} (h : Dist w) (k : Nat) : 0 ≤ sumTo w k ∧ sumTo w k ≤ 1000 * k := sumTo_bound (by decide) h.wt k
theorem Dist.sum16 {w : List Int} (h : Dist w) (k : Nat) : sumTo w k ≤ 16000 := by
  have h1 := h.sum w.length
  have h2 := h.l16
  rcases Nat.le_total k w.length with hk | hk
  · have := sumTo_mono (l := w) (fun x hx => (h.wt x hx).1) hk
    omega
  · rw [sumTo_all hk, ← sumTo_all (Nat.le_refl w.length)]; omega

/-- The sum of the weights times a number for each demand. -/
def wsum (w : List Int) (f : Nat → Int) : Nat → Int
  | 0 => 0
  | k + 1 => wsum w f k + w.getD k 0 * f k
theorem wsum_s (w : List Int) (f : Nat → Int) (k : Nat) : wsum w f (k + 1) = wsum w f k + w.getD k 0 * f k := rfl
theorem term_in {x y : Int} {B : Int} (h1 : 0 ≤ x ∧ x ≤ 1000) (h2 : 0 ≤ y ∧ y ≤ B) : 0 ≤ x * y ∧ x * y ≤ 1000 * B := by
  refine ⟨Int.mul_nonneg h1.1 h2.1, ?_⟩
  have a : x * y ≤ 1000 * y := Int.mul_le_mul_of_nonneg_right h1.2 h2.1
  omega
theorem wsum_in {w : List Int} (h : Dist w) {f : Nat → Int} {B : Int} (k : Nat) (hf : ∀ d, d < k → 0 ≤ f d ∧ f d ≤ B) : 0 ≤ wsum w f k ∧ wsum w f k ≤ 1000 * B * k := by
  induction k with
  | zero => simp [wsum]
  | succ k ih =>
    have h1 := ih fun d hd => hf d (by omega)
    have h2 := term_in (h.at_ k) (hf k (by omega))
    rw [wsum_s, Int.natCast_add, Int.mul_add]
    omega
def overF (w : List Int) (q : Nat) (k : Nat) : Int := wsum w (fun d => max 0 ((q : Int) - d)) k
def shortF (w : List Int) (q : Nat) (k : Nat) : Int := wsum w (fun d => max 0 ((d : Int) - q)) k
theorem over_s (w : List Int) (q k : Nat) : overF w q (k + 1) = overF w q k + w.getD k 0 * max 0 ((q : Int) - k) := rfl
theorem short_s (w : List Int) (q k : Nat) : shortF w q (k + 1) = shortF w q k + w.getD k 0 * max 0 ((k : Int) - q) := rfl
theorem over_in {w : List Int} (h : Dist w) {q : Nat} (hq : q ≤ 16) {k : Nat} (hk : k ≤ 16) : 0 ≤ overF w q k ∧ overF w q k ≤ 256000 := by
  have := wsum_in h (f := fun d => max 0 ((q : Int) - d)) (B := 16) k fun d hd => by constructor <;> omega
  unfold overF; omega
theorem short_in {w : List Int} (h : Dist w) {q : Nat} {k : Nat} (hk : k ≤ 16) : 0 ≤ shortF w q k ∧ shortF w q k ≤ 256000 := by
  have := wsum_in h (f := fun d => max 0 ((d : Int) - q)) (B := 16) k fun d hd => by constructor <;> omega
  unfold shortF; omega
theorem over_t {w : List Int} (h : Dist w) {q : Nat} (hq : q ≤ 16) (k : Nat) : 0 ≤ w.getD k 0 * max 0 ((q : Int) - k) ∧ w.getD k 0 * max 0 ((q : Int) - k) ≤ 16000 := term_in (B := 16) (h.at_ k) (by constructor <;> omega)
theorem short_t {w : List Int} (h : Dist w) {q k : Nat} (hk : k ≤ 16) : 0 ≤ w.getD k 0 * max 0 ((k : Int) - q) ∧ w.getD k 0 * max 0 ((k : Int) - q) ≤ 16000 := term_in (B := 16) (h.at_ k) (by constructor <;> omega)

/-- The total, the weight up to a demand, the over sum, the short sum, the cost sum. -/
def tot (w : List Int) : Int := sumTo w w.length
def upF (w : List Int) (q : Nat) : Int := sumTo w (min (q + 1) w.length)
def overS (w : List Int) (q : Nat) : Int := overF w q w.length
def shortS (w : List Int) (q : Nat) : Int := shortF w q w.length
def costF (w : List Int) (o u : Int) (q : Nat) : Int := o * overS w q + u * shortS w q
theorem tot_in {w : List Int} (h : Dist w) : 1 ≤ tot w ∧ tot w ≤ 16000 := ⟨h.pos, h.sum16 _⟩
theorem up_in {w : List Int} (h : Dist w) (q : Nat) : 0 ≤ upF w q ∧ upF w q ≤ tot w := by
  refine ⟨(h.sum _).1, sumTo_mono (fun x hx => (h.wt x hx).1) (by omega)⟩
theorem up_mono {w : List Int} (h : Dist w) {q r : Nat} (hqr : q ≤ r) : upF w q ≤ upF w r := sumTo_mono (fun x hx => (h.wt x hx).1) (by omega)
theorem up_all {w : List Int} {q : Nat} (hq : w.length ≤ q + 1) : upF w q = tot w := by unfold upF tot; rw [Nat.min_eq_right hq]
theorem overS_in {w : List Int} (h : Dist w) {q : Nat} (hq : q ≤ 16) : 0 ≤ overS w q ∧ overS w q ≤ 256000 := over_in h hq h.l16
theorem shortS_in {w : List Int} (h : Dist w) (q : Nat) : 0 ≤ shortS w q ∧ shortS w q ≤ 256000 := short_in h h.l16
theorem mul_in {a x A B : Int} (h1 : 0 ≤ a ∧ a ≤ A) (h2 : 0 ≤ x ∧ x ≤ B) : 0 ≤ a * x ∧ a * x ≤ A * B := by
  refine ⟨Int.mul_nonneg h1.1 h2.1, ?_⟩
  exact Int.mul_le_mul h1.2 h2.2 h2.1 (by omega)
theorem cost_parts {w : List Int} (h : Dist w) {o u : Int} (ho : 0 ≤ o ∧ o ≤ 20) (hu : 0 ≤ u ∧ u ≤ 20) {q : Nat} (hq : q ≤ 16) :
    (0 ≤ o * overS w q ∧ o * overS w q ≤ 5120000) ∧ (0 ≤ u * shortS w q ∧ u * shortS w q ≤ 5120000) := ⟨mul_in ho (overS_in h hq), mul_in hu (shortS_in h q)⟩
theorem cost_in {w : List Int} (h : Dist w) {o u : Int} (ho : 0 ≤ o ∧ o ≤ 20) (hu : 0 ≤ u ∧ u ≤ 20) {q : Nat} (hq : q ≤ 16) : 0 ≤ costF w o u q ∧ costF w o u q ≤ 10240000 := by
  have := cost_parts h ho hu hq
  unfold costF; omega

/-- One unit more: what the over sum gains, and what the short sum loses. -/
theorem over_next (w : List Int) (q : Nat) (k : Nat) (hk : k ≤ w.length) : overF w (q + 1) k = overF w q k + sumTo w (min (q + 1) k) := by
  induction k with
  | zero => simp [overF, wsum, sumTo]
  | succ k ih =>
    rw [over_s, over_s, ih (by omega)]
    by_cases hq : k ≤ q
    · have e1 : min (q + 1) k = k := by omega
      have e2 : min (q + 1) (k + 1) = k + 1 := by omega
      rw [e1, e2, sumTo_sD (by omega)]
      have e3 : max 0 (((q + 1 : Nat) : Int) - k) = max 0 ((q : Int) - k) + 1 := by omega
      rw [e3, Int.mul_add]; omega
    · have e1 : min (q + 1) k = q + 1 := by omega
      have e2 : min (q + 1) (k + 1) = q + 1 := by omega
      rw [e1, e2]
      have e3 : max 0 (((q + 1 : Nat) : Int) - k) = 0 := by omega
      have e4 : max 0 ((q : Int) - k) = 0 := by omega
      rw [e3, e4]; omega
theorem short_next (w : List Int) (q : Nat) (k : Nat) (hk : k ≤ w.length) : shortF w (q + 1) k = shortF w q k - (sumTo w k - sumTo w (min (q + 1) k)) := by
  induction k with
  | zero => simp [shortF, wsum, sumTo]
  | succ k ih =>
    rw [short_s, short_s, ih (by omega), sumTo_sD (show k < w.length by omega)]
    by_cases hq : k ≤ q
    · have e1 : min (q + 1) k = k := by omega
      have e2 : min (q + 1) (k + 1) = k + 1 := by omega
      rw [e1, e2, sumTo_sD (show k < w.length by omega)]
      have e3 : max 0 ((k : Int) - ((q + 1 : Nat) : Int)) = 0 := by omega
      have e4 : max 0 ((k : Int) - q) = 0 := by omega
      rw [e3, e4]; omega
    · have e1 : min (q + 1) k = q + 1 := by omega
      have e2 : min (q + 1) (k + 1) = q + 1 := by omega
      rw [e1, e2]
      have e3 : max 0 ((k : Int) - q) = max 0 ((k : Int) - ((q + 1 : Nat) : Int)) + 1 := by omega
      rw [e3, Int.mul_add]; omega
theorem cost_next (w : List Int) (o u : Int) (q : Nat) : costF w o u (q + 1) = costF w o u q + ((o + u) * upF w q - u * tot w) := by
  unfold costF overS shortS upF tot
  rw [over_next w q _ (Nat.le_refl _), short_next w q _ (Nat.le_refl _)]
  generalize sumTo w (min (q + 1) w.length) = a
  generalize sumTo w w.length = b
  rw [Int.mul_add, Int.mul_sub, Int.mul_sub, Int.add_mul]
  omega

/-- Not enough: the critical quotient is not reached. -/
def low (w : List Int) (o u : Int) (q : Nat) : Prop := (o + u) * upF w q < u * tot w
theorem low_last {w : List Int} {o u : Int} (h : Dist w) (ho : 0 ≤ o) {q : Nat} (hq : w.length ≤ q + 1) : ¬ low w o u q := by
  unfold low
  rw [up_all hq, Int.add_mul]
  have := Int.mul_nonneg ho (by have := (tot_in h).1; omega : (0 : Int) ≤ tot w)
  omega
theorem low_mono {w : List Int} {o u : Int} (h : Dist w) (ho : 0 ≤ o) (hu : 0 ≤ u) {q r : Nat} (hqr : q ≤ r) (hl : low w o u r) : low w o u q := by
  unfold low at hl ⊢
  have := Int.mul_le_mul_of_nonneg_left (up_mono h hqr) (by omega : 0 ≤ o + u)
  omega
/-- The critical order: the first one that is enough. -/
def critN (w : List Int) (o u : Int) : Nat → Nat → Nat
  | 0, q => q
  | f + 1, q => if (o + u) * upF w q < u * tot w then critN w o u f (q + 1) else q
def critF (w : List Int) (o u : Int) : Nat := critN w o u 16 0
theorem critN_spec {w : List Int} {o u : Int} (h : Dist w) (ho : 0 ≤ o) : ∀ (f q : Nat), w.length ≤ q + f + 1 → (∀ j, j < q → low w o u j) →
    ¬ low w o u (critN w o u f q) ∧ (∀ j, j < critN w o u f q → low w o u j) := by
  intro f
  induction f with
  | zero => intro q hq hl; exact ⟨low_last h ho (by simpa [critN] using hq), hl⟩
  | succ f ih =>
    intro q hq hl
    rw [critN]
    split
    · refine ih (q + 1) (by omega) fun j hj => ?_
      by_cases e : j = q
      · subst e; assumption
      · exact hl j (by omega)
    · exact ⟨by assumption, hl⟩
theorem crit_spec {w : List Int} {o u : Int} (h : Dist w) (ho : 0 ≤ o) : ¬ low w o u (critF w o u) ∧ (∀ j, j < critF w o u → low w o u j) :=
  critN_spec h ho 16 0 (by have := h.l16; omega) fun j hj => absurd hj (by omega)
theorem crit_uniq {w : List Int} {o u : Int} (h : Dist w) (ho : 0 ≤ o) {q : Nat} (h1 : ¬ low w o u q) (h2 : ∀ j, j < q → low w o u j) : critF w o u = q := by
  obtain ⟨a, b⟩ := crit_spec (w := w) (o := o) (u := u) h ho
  rcases Nat.lt_trichotomy (critF w o u) q with c | c | c
  · exact absurd (h2 _ c) a
  · exact c
  · exact absurd (b _ c) h1
theorem low_lt {w : List Int} {o u : Int} (h : Dist w) (ho : 0 ≤ o) {q : Nat} (hq : low w o u q) : q + 1 < w.length := by
  rcases Nat.lt_or_ge (q + 1) w.length with c | c
  · exact c
  · exact absurd hq (low_last h ho c)
theorem crit_le {w : List Int} {o u : Int} (h : Dist w) (ho : 0 ≤ o) : critF w o u ≤ 15 := by
  have h16 := h.l16
  rcases Nat.eq_zero_or_pos (critF w o u) with e | e
  · omega
  · have := low_lt h ho ((crit_spec (w := w) (o := o) (u := u) h ho).2 (critF w o u - 1) (by omega))
    omega
/-- No order has a less cost sum than the critical one. -/
theorem crit_least {w : List Int} {o u : Int} (h : Dist w) (ho : 0 ≤ o) (hu : 0 ≤ u) (q : Nat) : costF w o u (critF w o u) ≤ costF w o u q := by
  obtain ⟨a, b⟩ := crit_spec (w := w) (o := o) (u := u) h ho
  generalize critF w o u = c at a b
  have up : ∀ n : Nat, costF w o u c ≤ costF w o u (c + n) := by
    intro n
    induction n with
    | zero => exact Int.le_refl _
    | succ n ih =>
      have e := cost_next w o u (c + n)
      have hl : ¬ low w o u (c + n) := fun hl => a (low_mono h ho hu (by omega) hl)
      unfold low at hl
      rw [← Nat.add_assoc, e]; omega
  have dn : ∀ n : Nat, n ≤ c → costF w o u c ≤ costF w o u (c - n) := by
    intro n
    induction n with
    | zero => intro _; exact Int.le_refl _
    | succ n ih =>
      intro hn
      have e := cost_next w o u (c - (n + 1))
      have hl := b (c - (n + 1)) (by omega)
      unfold low at hl
      have := ih (by omega)
      rw [show c - (n + 1) + 1 = c - n by omega] at e
      omega
  rcases Nat.le_total c q with k | k
  · have := up (q - c); rwa [show c + (q - c) = q by omega] at this
  · have := dn (c - q) (by omega); rwa [show c - (c - q) = q by omega] at this

/-- The costs of the first orders; the best orders among them. -/
def costsTo (w : List Int) (o u : Int) : Nat → List Int
  | 0 => []
  | n + 1 => costsTo w o u n ++ [costF w o u n]
theorem costsTo_len (w : List Int) (o u : Int) (n : Nat) : (costsTo w o u n).length = n := by
  induction n with
  | zero => rfl
  | succ n ih => simp [costsTo, ih]
theorem costsTo_at (w : List Int) (o u : Int) {n q : Nat} (h : q < n) : (costsTo w o u n).getD q 0 = costF w o u q := by
  induction n with
  | zero => omega
  | succ n ih =>
    rw [costsTo, List.getD_eq_getElem?_getD]
    by_cases e : q < n
    · rw [List.getElem?_append_left (by rw [costsTo_len]; exact e), ← List.getD_eq_getElem?_getD, ih e]
    · have : q = n := by omega
      subst this
      rw [List.getElem?_append_right (by rw [costsTo_len]; omega), costsTo_len]; simp
def bestTo (w : List Int) (o u : Int) : Nat → List Int
  | 0 => []
  | n + 1 => if costF w o u n == costF w o u (critF w o u) then bestTo w o u n ++ [(n : Int)] else bestTo w o u n
theorem bestTo_len (w : List Int) (o u : Int) (n : Nat) : (bestTo w o u n).length ≤ n := by
  induction n with
  | zero => simp [bestTo]
  | succ n ih => rw [bestTo]; split <;> (try rw [List.length_append, List.length_singleton]) <;> omega

/-- The least of the first numbers. -/
def minTo (l : List Int) : Nat → Int
  | 0 => l.getD 0 0
  | k + 1 => min (minTo l k) (l.getD (k + 1) 0)
theorem minTo_le (l : List Int) (k : Nat) : ∀ j, j ≤ k → minTo l k ≤ l.getD j 0 := by
  induction k with
  | zero => intro j hj; rw [show j = 0 by omega]; exact Int.le_refl _
  | succ k ih =>
    intro j hj
    rw [minTo]
    by_cases e : j = k + 1
    · subst e; omega
    · have := ih j (by omega); omega
theorem minTo_mem (l : List Int) (k : Nat) : ∃ j, j ≤ k ∧ minTo l k = l.getD j 0 := by
  induction k with
  | zero => exact ⟨0, Nat.le_refl _, rfl⟩
  | succ k ih =>
    obtain ⟨j, hj, e⟩ := ih
    rw [minTo]
    rcases Int.le_total (minTo l k) (l.getD (k + 1) 0) with c | c
    · exact ⟨j, by omega, by rw [← e]; omega⟩
    · exact ⟨k + 1, Nat.le_refl _, by omega⟩
theorem min_costs {w : List Int} {o u : Int} (h : Dist w) (ho : 0 ≤ o) (hu : 0 ≤ u) : minTo (costsTo w o u 16) 15 = costF w o u (critF w o u) := by
  obtain ⟨j, hj, e⟩ := minTo_mem (costsTo w o u 16) 15
  have h1 := minTo_le (costsTo w o u 16) 15 (critF w o u) (crit_le h ho)
  rw [costsTo_at w o u (by have := crit_le (u := u) h ho; omega)] at h1
  rw [costsTo_at w o u (by omega)] at e
  have h2 := crit_least h ho hu j
  omega

/-- The weights of the sum of two demands: after all of a's first i, and k of b's with the next one. -/
def convIn (b : List Int) (x : Int) (i : Nat) : Nat → List Int → List Int
  | 0, l => l
  | k + 1, l => (convIn b x i k l).set (i + k) ((convIn b x i k l).getD (i + k) 0 + x * b.getD k 0)
def convTo (a b : List Int) : Nat → List Int
  | 0 => List.replicate (a.length + b.length - 1) 0
  | i + 1 => convIn b (a.getD i 0) i b.length (convTo a b i)
theorem convIn_len (b : List Int) (x : Int) (i k : Nat) (l : List Int) : (convIn b x i k l).length = l.length := by
  induction k with
  | zero => rfl
  | succ k ih => rw [convIn, List.length_set, ih]
theorem convTo_len (a b : List Int) (i : Nat) : (convTo a b i).length = a.length + b.length - 1 := by
  induction i with
  | zero => simp [convTo]
  | succ i ih => rw [convTo, convIn_len, ih]
theorem getD_set {l : List Int} {i j : Nat} {x : Int} (hi : i < l.length) : (l.set i x).getD j 0 = if j = i then x else l.getD j 0 := by
  rw [List.getD_eq_getElem?_getD, List.getElem?_set]
  by_cases e : i = j
  · subst e; rw [if_pos rfl, if_pos hi, if_pos rfl]; rfl
  · rw [if_neg e, if_neg (fun h => e h.symm), List.getD_eq_getElem?_getD]
theorem convIn_in {b : List Int} (hb : Dist b) {x : Int} (hx : 0 ≤ x ∧ x ≤ 1000) {i : Nat} {l : List Int} {B : Int} (hl : i + b.length ≤ l.length) (h : ∀ j, 0 ≤ l.getD j 0 ∧ l.getD j 0 ≤ B) (hB : 0 ≤ B) (k : Nat) (hk : k ≤ b.length) :
    ∀ j, 0 ≤ (convIn b x i k l).getD j 0 ∧ (convIn b x i k l).getD j 0 ≤ B + 1000000 * k := by
  induction k with
  | zero => intro j; have := h j; simp only [convIn]; omega
  | succ k ih =>
    intro j
    have h1 := ih (by omega)
    rw [convIn, getD_set (by rw [convIn_len]; omega)]
    have h2 := h1 j
    have h3 := h1 (i + k)
    have h4 := mul_in hx (hb.at_ k)
    split <;> omega
theorem convTo_in {a b : List Int} (ha : Dist a) (hb : Dist b) (i : Nat) (hi : i ≤ a.length) : ∀ j, 0 ≤ (convTo a b i).getD j 0 ∧ (convTo a b i).getD j 0 ≤ 16000000 * i := by
  induction i with
  | zero =>
    intro j
    rw [convTo, List.getD_eq_getElem?_getD, List.getElem?_replicate]
    split <;> simp
  | succ i ih =>
    intro j
    have h1 := convIn_in hb (ha.at_ i) (i := i) (l := convTo a b i) (B := 16000000 * i) (by rw [convTo_len]; omega) (ih (by omega)) (by omega) b.length (Nat.le_refl _) j
    have := hb.l16
    rw [convTo]; omega

/-- What it costs to begin a period with y, for a stock before it. -/
def begunF (w : List Int) (o u un s : Int) (stock y : Nat) : Int := costF w o u y + tot w * un * y + (if stock < y then tot w * s else 0)
def levTo (w : List Int) (o u un s : Int) (stock : Nat) : Nat → Nat
  | 0 => stock
  | n + 1 => if begunF w o u un s stock (stock + n + 1) < begunF w o u un s stock (levTo w o u un s stock n) then stock + n + 1 else levTo w o u un s stock n
def levF (w : List Int) (o u un s : Int) (stock : Nat) : Nat := levTo w o u un s stock (15 - stock)
theorem levTo_in (w : List Int) (o u un s : Int) (stock n : Nat) : stock ≤ levTo w o u un s stock n ∧ levTo w o u un s stock n ≤ stock + n := by
  induction n with
  | zero => exact ⟨Nat.le_refl _, Nat.le_refl _⟩
  | succ n ih => rw [levTo]; split <;> omega
theorem lev_in (w : List Int) (o u un s : Int) {stock : Nat} (h : stock ≤ 15) : stock ≤ levF w o u un s stock ∧ levF w o u un s stock ≤ 15 := by
  have := levTo_in w o u un s stock (15 - stock)
  unfold levF; omega
theorem begun_parts {w : List Int} (h : Dist w) {un s : Int} (hn : 0 ≤ un ∧ un ≤ 20) (hs : 0 ≤ s ∧ s ≤ 30) {y : Nat} (hy : y ≤ 15) :
    (0 ≤ tot w * un ∧ tot w * un ≤ 320000) ∧ (0 ≤ tot w * un * y ∧ tot w * un * y ≤ 4800000) ∧ (0 ≤ tot w * s ∧ tot w * s ≤ 480000) := by
  have t := tot_in h
  have a : 0 ≤ tot w * un ∧ tot w * un ≤ 320000 := mul_in (A := 16000) (B := 20) ⟨by omega, t.2⟩ hn
  exact ⟨a, mul_in (A := 320000) (B := 15) a ⟨by omega, by omega⟩, mul_in (A := 16000) (B := 30) ⟨by omega, t.2⟩ hs⟩
/-- The greatest of the first stocks that is raised. -/
def trigTo (w : List Int) (o u un s : Int) : Nat → Int
  | 0 => -1
  | n + 1 => if n < levF w o u un s n then (n : Int) else trigTo w o u un s n
end Go.Proofs.Ytghaogfhmbjlkaa
