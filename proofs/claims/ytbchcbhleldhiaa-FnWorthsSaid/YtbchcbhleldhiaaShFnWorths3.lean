/- What the law needs of the texts that it rests on. -/
import Derived.Test.YtbchcbhleldhiaaShFnWorths2
section
namespace Go.Proofs.Ytbchcbhleldhiaa
open Go
set_option linter.unusedVariables false
def KConv (K : Int) (f : Int → Int) (lo hi : Int) : Prop := ∀ a v u, 0 < v → 0 < u → lo ≤ a - v → a + u ≤ hi → v * f a + u * (f a - f (a - v)) ≤ v * (K + f (a + u))
theorem least_ex (P : Int → Prop) [DecidablePred P] (lo : Int) : ∀ n : Nat, P (lo + n) → ∃ s, lo ≤ s ∧ s ≤ lo + n ∧ P s ∧ ∀ x, lo ≤ x → x < s → ¬ P x
  | 0, h => ⟨lo, Int.le_refl _, by omega, by simpa using h, fun x h1 h2 => by omega⟩
  | n + 1, h => by
    by_cases h0 : P lo
    · exact ⟨lo, Int.le_refl _, by omega, h0, fun x h1 h2 => by omega⟩
    · obtain ⟨s, h1, h2, h3, h4⟩ := least_ex P (lo + 1) n (by rw [show lo + 1 + (n : Int) = lo + ((n + 1 : Nat) : Int) by omega]; exact h)
      refine ⟨s, by omega, by omega, h3, fun x hx hs => ?_⟩
      by_cases e : x = lo
      · rw [e]; exact h0
      · exact h4 x (by omega) hs
section
variable {K : Int} {H V : Int → Int} {fl lo hi S s : Int}
theorem KConv.upto (hH : KConv K H fl hi) (hK : 0 ≤ K) (h1 : fl ≤ s) (h2 : s ≤ S) (h3 : S ≤ hi) (hs : H s ≤ K + H S) {x : Int} (hx : s ≤ x) (hx2 : x ≤ S) : H x ≤ K + H S := by
  by_cases e1 : x = s
  · rw [e1]; exact hs
  by_cases e2 : x = S
  · rw [e2]; omega
  have h := hH x (x - s) (S - x) (by omega) (by omega) (by omega) (by omega)
  rw [show x - (x - s) = s by omega, show x + (S - x) = S by omega] at h
  rcases Int.lt_or_le (K + H S) (H x) with hc | hc
  · have p1 : (x - s) * (K + H S) < (x - s) * H x := Int.mul_lt_mul_of_pos_left hc (by omega)
    have p2 : 0 ≤ (S - x) * (H x - H s) := Int.mul_nonneg (by omega) (by omega)
    omega
  · exact hc
theorem KConv.behind (hH : KConv K H fl hi) (hK : 0 ≤ K) (h1 : fl ≤ s) (h2 : s ≤ S) (h3 : S ≤ hi) (hs : H s ≤ K + H S) (hmin : ∀ y, fl ≤ y → y ≤ hi → H S ≤ H y) {x y : Int} (hx : s ≤ x) (hxy : x ≤ y) (hy : y ≤ hi) : H x ≤ K + H y := by
  rcases Int.lt_or_le S x with hS | hS
  · by_cases e : x = y
    · rw [e]; omega
    have h := hH x (x - S) (y - x) (by omega) (by omega) (by omega) (by omega)
    rw [show x - (x - S) = S by omega, show x + (y - x) = y by omega] at h
    have p2 : 0 ≤ (y - x) * (H x - H S) := Int.mul_nonneg (by omega) (by have := hmin x (by omega) (by omega); omega)
    exact Int.le_of_mul_le_mul_left (a := x - S) (by omega) (by omega)
  · have p1 := hH.upto hK h1 h2 h3 hs hx hS
    have p2 := hmin y (by omega) hy
    omega
theorem KConv.scarf (hH : KConv K H fl hi) (hK : 0 ≤ K) (hl : lo ≤ fl) (h1 : fl ≤ s) (h2 : s ≤ S) (h3 : S ≤ hi) (hs : H s ≤ K + H S) (hb : ∀ x, fl ≤ x → x < s → K + H S < H x) (hmin : ∀ y, fl ≤ y → y ≤ hi → H S ≤ H y)
    (v1 : ∀ x y, lo ≤ x → x ≤ y → fl ≤ y → y ≤ hi → V x ≤ (if x < y then K else 0) + H y) (v2 : ∀ x, lo ≤ x → x ≤ hi → ∃ y, x ≤ y ∧ fl ≤ y ∧ y ≤ hi ∧ V x = (if x < y then K else 0) + H y) :
    (∀ x, s ≤ x → x ≤ hi → V x = H x) ∧ (∀ x, lo ≤ x → x < s → V x = K + H S) ∧ KConv K V lo hi := by
  have f1 : ∀ x, s ≤ x → x ≤ hi → V x = H x := fun x hx hx2 => by
    have a := v1 x x (by omega) (Int.le_refl _) (by omega) hx2
    rw [if_neg (Int.lt_irrefl x)] at a
    obtain ⟨y, b1, b2, b3, b4⟩ := v2 x (by omega) hx2
    by_cases e : x < y
    · rw [if_pos e] at b4
      have := hH.behind hK h1 h2 h3 hs hmin hx b1 b3
      omega
    · obtain rfl : x = y := by omega
      rw [if_neg e] at b4
      omega
  have f2 : ∀ x, lo ≤ x → x < s → V x = K + H S := fun x hx hx2 => by
    have a := v1 x S hx (by omega) (by omega) h3
    rw [if_pos (by omega)] at a
    obtain ⟨y, b1, b2, b3, b4⟩ := v2 x hx (by omega)
    have hm := hmin y b2 b3
    by_cases e : x < y
    · rw [if_pos e] at b4
      omega
    · obtain rfl : x = y := by omega
      rw [if_neg e] at b4
      have := hb x b2 hx2
      omega
  refine ⟨f1, f2, fun a v u hv hu hp hq => ?_⟩
  rcases Int.lt_or_le (a - v) s with c1 | c1
  · rcases Int.lt_or_le a s with c2 | c2
    · rw [f2 a (by omega) c2, f2 (a - v) hp c1, Int.sub_self, Int.mul_zero, Int.add_zero]
      refine Int.mul_le_mul_of_nonneg_left ?_ (by omega)
      rcases Int.lt_or_le (a + u) s with c3 | c3
      · rw [f2 (a + u) (by omega) c3]; omega
      · rw [f1 (a + u) c3 hq]
        have := hmin (a + u) (by omega) hq
        omega
    · rw [f1 a c2 (by omega), f2 (a - v) hp c1, f1 (a + u) (by omega) hq]
      have g1 := hH.behind hK h1 h2 h3 hs hmin c2 (show a ≤ a + u by omega) hq
      have g2 : v * H a ≤ v * (K + H (a + u)) := Int.mul_le_mul_of_nonneg_left g1 (by omega)
      rcases Int.lt_or_le (K + H S) (H a) with c3 | c3
      · have c4 : S < a := by
          rcases Int.lt_or_le S a with h | h
          · exact h
          · have := hH.upto hK h1 h2 h3 hs c2 h; omega
        have h := hH a (a - S) u (by omega) hu (by omega) hq
        rw [show a - (a - S) = S by omega] at h
        -- v' := a - S, D := K + H (a + u) - H a, E := H a - H S
        have hD : (a - S) * (K + H (a + u)) = (a - S) * H a + (a - S) * (K + H (a + u) - H a) := by rw [← Int.mul_add]; congr 1; omega
        have hE : u * (H a - H S) ≤ (a - S) * (K + H (a + u) - H a) := by omega
        have hv' : (a - S) * (K + H (a + u) - H a) ≤ v * (K + H (a + u) - H a) := Int.mul_le_mul_of_nonneg_right (by omega) (by omega)
        have hu' : u * (H a - (K + H S)) ≤ u * (H a - H S) := Int.mul_le_mul_of_nonneg_left (by omega) (by omega)
        have hD2 : v * (K + H (a + u)) = v * H a + v * (K + H (a + u) - H a) := by rw [← Int.mul_add]; congr 1; omega
        omega
      · have : u * (H a - (K + H S)) ≤ 0 := by
          have := Int.mul_le_mul_of_nonneg_left (show H a - (K + H S) ≤ 0 by omega) (show 0 ≤ u by omega)
          simpa using this
        omega
  · rw [f1 a (by omega) (by omega), f1 (a - v) c1 (by omega), f1 (a + u) (by omega) hq]
    exact hH a v u hv hu (by omega) hq
end
theorem KConv.mono {K : Int} {f : Int → Int} {lo hi lo' hi' : Int} (h : KConv K f lo hi) (h1 : lo ≤ lo') (h2 : hi' ≤ hi) : KConv K f lo' hi' := fun a v u hv hu hp hq => h a v u hv hu (by omega) (by omega)
theorem KConv.congr {K K' : Int} {f g : Int → Int} {lo hi : Int} (h : KConv K f lo hi) (hK : K = K') (he : ∀ x, lo ≤ x → x ≤ hi → g x = f x) : KConv K' g lo hi := fun a v u hv hu hp hq => by
  subst hK
  rw [he a (by omega) (by omega), he (a - v) hp (by omega), he (a + u) (by omega) hq]
  exact h a v u hv hu hp hq
theorem KConv.shift {K : Int} {f : Int → Int} {lo hi : Int} (h : KConv K f lo hi) (d : Int) : KConv K (fun x => f (x - d)) (lo + d) (hi + d) := fun a v u hv hu hp hq => by
  have := h (a - d) v u hv hu (by omega) (by omega)
  show v * f (a - d) + u * (f (a - d) - f (a - v - d)) ≤ v * (K + f (a + u - d))
  rw [show a - v - d = a - d - v by omega, show a + u - d = a - d + u by omega]
  exact this
theorem KConv.add {K L : Int} {f g : Int → Int} {lo hi : Int} (h : KConv K f lo hi) (h' : KConv L g lo hi) : KConv (K + L) (fun x => f x + g x) lo hi := fun a v u hv hu hp hq => by
  have h1 := h a v u hv hu hp hq
  have h2 := h' a v u hv hu hp hq
  show v * (f a + g a) + u * (f a + g a - (f (a - v) + g (a - v))) ≤ v * (K + L + (f (a + u) + g (a + u)))
  have e1 : v * (f a + g a) + u * (f a + g a - (f (a - v) + g (a - v))) = (v * f a + u * (f a - f (a - v))) + (v * g a + u * (g a - g (a - v))) := by grind
  have e2 : v * (K + L + (f (a + u) + g (a + u))) = v * (K + f (a + u)) + v * (L + g (a + u)) := by grind
  omega
theorem KConv.mul {K : Int} {f : Int → Int} {lo hi : Int} (h : KConv K f lo hi) {w : Int} (hw : 0 ≤ w) : KConv (w * K) (fun x => w * f x) lo hi := fun a v u hv hu hp hq => by
  have h1 := Int.mul_le_mul_of_nonneg_left (h a v u hv hu hp hq) hw
  show v * (w * f a) + u * (w * f a - w * f (a - v)) ≤ v * (w * K + w * f (a + u))
  have e1 : v * (w * f a) + u * (w * f a - w * f (a - v)) = w * (v * f a + u * (f a - f (a - v))) := by grind
  have e2 : v * (w * K + w * f (a + u)) = w * (v * (K + f (a + u))) := by grind
  rw [e1, e2]
  exact h1
theorem KConv.line (c d : Int) {lo hi : Int} : KConv 0 (fun x => c * x + d) lo hi := fun a v u hv hu hp hq => by
  show v * (c * a + d) + u * (c * a + d - (c * (a - v) + d)) ≤ v * (0 + (c * (a + u) + d))
  have e : v * (c * a + d) + u * (c * a + d - (c * (a - v) + d)) = v * (0 + (c * (a + u) + d)) := by grind
  omega
theorem KConv.zero {K : Int} (hK : 0 ≤ K) {lo hi : Int} : KConv K (fun _ => 0) lo hi := fun a v u hv hu hp hq => by
  show v * 0 + u * (0 - 0) ≤ v * (K + 0)
  have : 0 ≤ v * K := Int.mul_nonneg (by omega) hK
  simpa using this
theorem kept_ge {p : Pr} (h1 : 0 ≤ p.hold) (h2 : 0 ≤ p.back) (x : Int) : p.hold * x ≤ p.kept x ∧ -p.back * x ≤ p.kept x := by
  unfold Pr.kept
  split
  · refine ⟨Int.le_refl _, ?_⟩
    have a := Int.mul_nonneg h1 (show 0 ≤ x by omega)
    have b := Int.mul_nonneg h2 (show 0 ≤ x by omega)
    rw [Int.neg_mul]; omega
  · refine ⟨?_, Int.le_refl _⟩
    have a := Int.mul_nonneg h1 (show 0 ≤ -x by omega)
    have b := Int.mul_nonneg h2 (show 0 ≤ -x by omega)
    rw [Int.mul_neg] at a b
    rw [Int.neg_mul]; omega
theorem KConv.kept {p : Pr} (h1 : 0 ≤ p.hold) (h2 : 0 ≤ p.back) {lo hi : Int} : KConv 0 p.kept lo hi := fun a v u hv hu hp hq => by
  have g1 := kept_ge h1 h2 (a + u)
  have g2 := kept_ge h1 h2 (a - v)
  have key : ∀ c : Int, p.kept a = c * a → c * (a + u) ≤ p.kept (a + u) → c * (a - v) ≤ p.kept (a - v) → v * p.kept a + u * (p.kept a - p.kept (a - v)) ≤ v * (0 + p.kept (a + u)) := fun c e q1 q2 => by
    have m1 := Int.mul_le_mul_of_nonneg_left q1 (show 0 ≤ v by omega)
    have m2 := Int.mul_le_mul_of_nonneg_left q2 (show 0 ≤ u by omega)
    rw [e]
    generalize p.kept (a + u) = X at *
    generalize p.kept (a - v) = Y at *
    have e1 : v * (c * a) + u * (c * a - Y) = v * (c * (a + u)) + (u * (c * (a - v)) - u * Y) := by grind
    rw [e1, Int.zero_add]
    omega
  by_cases ha : 0 < a
  · exact key p.hold (by unfold Pr.kept; rw [if_pos ha]) g1.1 g2.1
  · exact key (-p.back) (by unfold Pr.kept; rw [if_neg ha]) g1.2 g2.2
def fun21 (l : List Int) (x : Int) : Int := l.getD (x + 10).toNat 0
theorem KConv.weighted {p : Pr} (hG : GoodP p) {next : List Int} {n : Nat} (hn : KConv (p.setup * p.pow n) (fun21 next) (-10) 10) : ∀ k, k ≤ p.w.length → KConv (sumTo p.w k * (p.setup * p.pow n)) (fun y => wsum p.w (p.part next y n) k) p.floor 10
  | 0, _ => by
    have := KConv.zero (K := 0) (Int.le_refl 0) (lo := p.floor) (hi := 10)
    exact this.congr (by simp [sumTo]) fun x _ _ => rfl
  | k + 1, hk => by
    have ih := KConv.weighted hG hn k (by omega)
    have hw := hG.at_ k
    have hl := hG.len
    have hp := hG.pow n
    have a1 : KConv (p.pow n * 0) (fun x => p.pow n * p.kept x) (-10) 10 := (KConv.kept (p := p) (by have := hG.hold; omega) (by have := hG.back; omega)).mul (by omega)
    have a2 := ((a1.add hn).shift (k : Int)).mul hw.1
    have a3 : KConv (p.w.getD k 0 * (p.setup * p.pow n)) (fun y => p.w.getD k 0 * p.part next y n k) p.floor 10 := by
      refine (a2.mono (by unfold Pr.floor; omega) (by omega)).congr (by rw [Int.mul_zero, Int.zero_add]) fun x _ _ => ?_
      show _ = p.w.getD k 0 * (p.pow n * p.kept (x - k) + fun21 next (x - k))
      unfold Pr.part fun21
      rw [Int.mul_comm (p.pow n)]
    refine (ih.add a3).congr ?_ fun x _ _ => rfl
    rw [sumTo_sD (by omega), Int.add_mul]
theorem KConv.bill {p : Pr} (hG : GoodP p) {next : List Int} {n : Nat} (hn : KConv (p.setup * p.pow n) (fun21 next) (-10) 10) : KConv (p.setup * p.pow (n + 1)) (fun y => p.bill next y n) p.floor 10 := by
  have h1 := (KConv.line (p.unit * p.pow (n + 1)) 0 (lo := p.floor) (hi := 10)).add (KConv.weighted hG hn p.w.length (Nat.le_refl _))
  refine h1.congr ?_ fun y _ _ => ?_
  · rw [Int.zero_add]
    show p.whole * (p.setup * p.pow n) = p.setup * (p.pow n * p.whole)
    grind
  · unfold Pr.bill Pr.after
    grind
theorem Pr.move_bill (p : Pr) (next : List Int) (n : Nat) {x y : Int} (hxy : x ≤ y) : p.move next x y n + p.unit * p.pow (n + 1) * x = (if x < y then p.setup * p.pow (n + 1) else 0) + p.bill next y n := by
  unfold Pr.move Pr.bill Pr.ord
  by_cases e : x < y
  · rw [if_pos e, if_pos e]; grind
  · obtain rfl : x = y := by omega
    rw [if_neg e, if_neg e]; grind
theorem Pr.row_scarf {p : Pr} (hG : GoodP p) {next : List Int} {n : Nat} (hn : KConv (p.setup * p.pow n) (fun21 next) (-10) 10) {W : Int → Int} (hW : ∀ x, -10 ≤ x → x ≤ 10 → W x = p.move next x (p.up next x n) n) {s S : Int}
    (m : IsLeast (fun y => p.bill next y n) p.floor 10 S) (s1 : p.floor ≤ s) (s2 : s ≤ S) (s3 : p.bill next s n ≤ p.setup * p.pow (n + 1) + p.bill next S n) (s4 : ∀ x, p.floor ≤ x → x < s → p.setup * p.pow (n + 1) + p.bill next S n < p.bill next x n) :
    (∀ x, s ≤ x → x ≤ 10 → W x + p.unit * p.pow (n + 1) * x = p.bill next x n) ∧ (∀ x, -10 ≤ x → x < s → W x + p.unit * p.pow (n + 1) * x = p.setup * p.pow (n + 1) + p.bill next S n) ∧ KConv (p.setup * p.pow (n + 1)) W (-10) 10 := by
  have hB := KConv.bill hG hn
  have hfl := hG.floor
  have hpw := hG.pow (n + 1)
  have hK : 0 ≤ p.setup * p.pow (n + 1) := Int.mul_nonneg (by have := hG.setup; omega) (by omega)
  have mv := fun x y (h : x ≤ y) => Pr.move_bill p next n h
  obtain ⟨K, hKe⟩ : ∃ K, K = p.setup * p.pow (n + 1) := ⟨_, rfl⟩
  obtain ⟨c, hc⟩ : ∃ c, c = p.unit * p.pow (n + 1) := ⟨_, rfl⟩
  obtain ⟨m1, m2, m3, m4⟩ := m
  rw [← hKe] at hB hK s3 s4 mv ⊢
  rw [← hc] at mv ⊢
  have H := KConv.scarf (V := fun x => W x + c * x) (lo := -10) hB hK (by omega) s1 s2 m2 s3 s4 m3
    (fun x y h1 h2 h3 h4 => by
      have hu := Pr.up_least hG next (x := x) ⟨h1, by omega⟩ n
      have := hu.2.2.1 y (by unfold Pr.lo; omega) h4
      have e := mv x y h2
      show W x + c * x ≤ _
      rw [hW x h1 (by omega), ← e]
      show p.move next x (p.up next x n) n + c * x ≤ p.move next x y n + c * x
      exact Int.add_le_add_right this _)
    (fun x h1 h2 => by
      have hu := Pr.up_may hG next (x := x) ⟨h1, h2⟩ n
      refine ⟨p.up next x n, hu.2, hu.1.1, hu.1.2, ?_⟩
      show W x + c * x = _
      rw [hW x h1 h2, mv x _ hu.2])
  refine ⟨H.1, H.2.1, ?_⟩
  have h2 := H.2.2.add (KConv.line (-c) 0)
  refine h2.congr (Int.add_zero _) fun x _ _ => ?_
  show W x = W x + c * x + (-c * x + 0)
  rw [Int.neg_mul]; omega
theorem Pr.row_conv {p : Pr} (hG : GoodP p) {next : List Int} {n : Nat} (hn : KConv (p.setup * p.pow n) (fun21 next) (-10) 10) {W : Int → Int} (hW : ∀ x, -10 ≤ x → x ≤ 10 → W x = p.move next x (p.up next x n) n) :
    KConv (p.setup * p.pow (n + 1)) W (-10) 10 := by
  have hfl := hG.floor
  have hpw := hG.pow (n + 1)
  have hK : 0 ≤ p.setup * p.pow (n + 1) := Int.mul_nonneg (by have := hG.setup; omega) (by omega)
  have hmin := amin_least (fun y => p.bill next y n) p.floor (10 - p.floor).toNat
  rw [show p.floor + ((10 - p.floor).toNat : Int) = 10 by omega] at hmin
  obtain ⟨S, hS⟩ : ∃ S, S = amin (fun y => p.bill next y n) p.floor (10 - p.floor).toNat := ⟨_, rfl⟩
  rw [← hS] at hmin
  have m1 := hmin.1
  obtain ⟨s, s1, s2, s3, s4⟩ := least_ex (fun x => p.bill next x n ≤ p.setup * p.pow (n + 1) + p.bill next S n) p.floor (S - p.floor).toNat (by rw [show p.floor + ((S - p.floor).toNat : Int) = S by omega]; omega)
  exact (Pr.row_scarf hG hn hW hmin s1 (by omega) s3 (fun x h1 h2 => by have := s4 x h1 h2; omega)).2.2
theorem Pr.rows_conv {p : Pr} (hG : GoodP p) : ∀ k, KConv (p.setup * p.pow k) (fun21 (p.rowsN p.bestC k)) (-10) 10
  | 0 => (KConv.zero (Int.mul_nonneg (by have := hG.setup; omega) (by have := hG.pow 0; omega))).congr rfl fun x h1 h2 => by
      show (List.replicate 21 (0 : Int)).getD (x + 10).toNat 0 = 0
      rw [List.getD_eq_getElem?_getD, List.getElem?_replicate, if_pos (by omega)]; rfl
  | k + 1 => Pr.row_conv hG (Pr.rows_conv hG k) fun x h1 h2 => by
      show (p.rowsN p.bestC (k + 1)).getD (x + 10).toNat 0 = _
      rw [Pr.rowsN_at p _ k (by omega), show (((x + 10).toNat : Nat) : Int) - 10 = x by omega]
      rfl
end Go.Proofs.Ytbchcbhleldhiaa
end
section
namespace Go.Proofs.Ytbchcbhleldhiaa.Ab
open Go Go.RowKit
set_option linter.unusedVariables false
theorem pair_is {p : Pr} (hG : GoodP p) (next : List Int) (n : Nat) : ∃ s S, pairOf p next n = (s, S) ∧ IsLeast (fun y => p.bill next y n) p.floor 10 S ∧ p.floor ≤ s ∧ s ≤ S ∧ p.bill next s n ≤ p.setup * p.pow (n + 1) + p.bill next S n ∧
    ∀ x, p.floor ≤ x → x < s → p.setup * p.pow (n + 1) + p.bill next S n < p.bill next x n := by
  have hl := hG.len
  have hfl : p.floor = p.w.length - 1 - 10 := rfl
  have hpw := hG.pow (n + 1)
  have hK : 0 ≤ p.setup * p.pow (n + 1) := Int.mul_nonneg (by have := hG.setup; omega) (by omega)
  obtain ⟨K, hKe⟩ : ∃ K, K = p.setup * p.pow (n + 1) := ⟨_, rfl⟩
  rw [← hKe] at hK ⊢
  have hbl := billsL_len p next n
  obtain ⟨B, hB⟩ : ∃ B, B = billsL p next n := ⟨_, rfl⟩
  have at_ : ∀ i : Nat, i < B.length → B.getD i 0 = p.bill next (p.floor + i) n := fun i hi => by rw [hB]; exact billsL_at (by rw [hB, hbl] at hi; exact hi)
  have hpair : pairOf p next n = (p.floor + loI B K, p.floor + upI B) := by rw [hB, hKe]; rfl
  rw [← hB] at hbl
  rw [hpair]
  have hup := upI_least (B := B) (by omega)
  obtain ⟨u, hu⟩ : ∃ u : Nat, upI B = u := ⟨(upI B).toNat, by have := hup.1; omega⟩
  have hlo : loI B K = firstAt (fun b => decide (b ≤ B.getD u 0 + K)) B 0 := by unfold loI; rw [hu]; rfl
  rw [hu] at hup ⊢
  have hul : u < B.length := by have := hup.2.1; omega
  have hS : IsLeast (fun y => p.bill next y n) p.floor 10 (p.floor + u) := by
    refine ⟨by omega, by omega, fun y h1 h2 => ?_, fun y h1 h2 => ?_⟩
    · have := hup.2.2.1 (y - p.floor) (by omega) (by omega)
      simp only [Int.toNat_natCast] at this
      rw [at_ u hul, at_ (y - p.floor).toNat (by omega), show p.floor + (((y - p.floor).toNat : Nat) : Int) = y by omega] at this
      exact this
    · have := hup.2.2.2 (y - p.floor) (by omega) (by omega)
      simp only [Int.toNat_natCast] at this
      rw [at_ u hul, at_ (y - p.floor).toNat (by omega), show p.floor + (((y - p.floor).toNat : Nat) : Int) = y by omega] at this
      exact this
  obtain ⟨s, s1, s2, s3, s4⟩ := least_ex (fun x => p.bill next x n ≤ K + p.bill next (p.floor + u) n) p.floor u (by omega)
  refine ⟨s, p.floor + u, ?_, hS, s1, s2, s3, fun x h1 h2 => by have := s4 x h1 h2; omega⟩
  rw [hlo, firstAt_is (k := (s - p.floor).toNat) (by omega) (fun j hj => ?_) ?_]
  · rw [show p.floor + (((s - p.floor).toNat : Nat) : Int) = s by omega]
  · rw [at_ _ (by omega), at_ u hul, show p.floor + (((s - p.floor).toNat : Nat) : Int) = s by omega]
    exact decide_eq_true (by omega)
  · rw [at_ j (by omega), at_ u hul]
    have := s4 (p.floor + j) (by omega) (by omega)
    exact decide_eq_false (by omega)
theorem pair_move {p : Pr} (hG : GoodP p) {next : List Int} {n : Nat} (hn : KConv (p.setup * p.pow n) (fun21 next) (-10) 10) {x : Int} (h1 : -10 ≤ x) (h2 : x ≤ 10) : p.move next x (p.upOf (pairOf p next n) x) n = p.move next x (p.up next x n) n := by
  obtain ⟨s, S, e, hS, a1, a2, a3, a4⟩ := pair_is hG next n
  have H := Pr.row_scarf hG hn (W := fun x => p.move next x (p.up next x n) n) (fun x _ _ => rfl) hS a1 a2 a3 a4
  rw [e]
  unfold Pr.upOf
  by_cases c : x < s
  · rw [if_pos (.inl c)]
    have := H.2.1 x h1 c
    have m := Pr.move_bill p next n (x := x) (y := S) (by omega)
    rw [if_pos (by omega)] at m
    (try simp only at this)
    (try simp only)
    omega
  · rw [if_neg (by simp only [not_or]; omega)]
    have := H.1 x (by omega) h2
    have m := Pr.move_bill p next n (x := x) (y := x) (Int.le_refl _)
    rw [if_neg (Int.lt_irrefl x)] at m
    (try simp only at this)
    (try simp only)
    omega
theorem best_rows {p : Pr} (hG : GoodP p) : ∀ k, k ≤ p.turns.toNat → p.rowsN (p.polC (levelsL p p.turns.toNat)) k = p.rowsN p.bestC k
  | 0, _ => rfl
  | k + 1, hk => by
    have ih := best_rows hG k (by omega)
    show (List.range 21).map _ = (List.range 21).map _
    refine List.map_congr_left fun i hi => ?_
    have hi' := List.mem_range.1 hi
    rw [ih]
    have hq : (levelsL p p.turns.toNat).getD (p.turns.toNat - 1 - k) (0, 0) = pairOf p (p.rowsN p.bestC k) k := by
      rw [levelsL_at (by omega), show p.turns.toNat - 1 - (p.turns.toNat - 1 - k) = k by omega]
    show p.move (p.rowsN p.bestC k) ((i : Int) - 10) (p.upOf ((levelsL p p.turns.toNat).getD (p.turns.toNat - 1 - k) (0, 0)) ((i : Int) - 10)) k = _
    rw [hq]
    exact pair_move hG (Pr.rows_conv hG k) (by omega) (by omega)
theorem wsum_le {p : Pr} (hG : GoodP p) {f g : Nat → Int} : ∀ k : Nat, (∀ d, d < k → f d ≤ g d) → wsum p.w f k ≤ wsum p.w g k
  | 0, _ => Int.le_refl _
  | k + 1, h => by
    have h1 := wsum_le hG k fun d hd => h d (by omega)
    have h2 := Int.mul_le_mul_of_nonneg_left (h k (Nat.lt_succ_self k)) (hG.at_ k).1
    rw [wsum_s, wsum_s]
    omega
theorem move_le {p : Pr} (hG : GoodP p) {l l' : List Int} {n : Nat} (h : ∀ i, i < 21 → l.getD i 0 ≤ l'.getD i 0) {x y : Int} (hy : p.may y) : p.move l x y n ≤ p.move l' x y n := by
  unfold Pr.move Pr.after
  refine Int.add_le_add_left (wsum_le hG _ fun d hd => ?_) _
  unfold Pr.part
  have := hy.lv hd
  exact Int.add_le_add_left (h _ (by omega)) _
theorem no_less {p : Pr} (hG : GoodP p) {ch : Nat → List Int → Int → Int} {N : Nat} (hf : p.fair ch N) (hx : ∀ k next x, k < N → -10 ≤ x → x ≤ 10 → x ≤ ch k next x) : ∀ k, k ≤ N → ∀ i, i < 21 → (p.rowsN p.bestC k).getD i 0 ≤ (p.rowsN ch k).getD i 0
  | 0, _, i, _ => Int.le_refl _
  | k + 1, hk, i, hi => by
    have ih := no_less hG hf hx k (by omega)
    rw [Pr.rowsN_at p _ k hi, Pr.rowsN_at p _ k hi]
    have hm := hf k (p.rowsN ch k) ((i : Int) - 10) (by omega) (by omega) (by omega)
    have hxx := hx k (p.rowsN ch k) ((i : Int) - 10) (by omega) (by omega) (by omega)
    have h1 := move_le hG ih (n := k) (x := (i : Int) - 10) hm
    have h2 := (Pr.up_least hG (p.rowsN p.bestC k) (x := (i : Int) - 10) ⟨by omega, by omega⟩ k).2.2.1 (ch k (p.rowsN ch k) ((i : Int) - 10)) (by unfold Pr.lo; have := hm.1; omega) hm.2
    exact Int.le_trans h2 h1
end Go.Proofs.Ytbchcbhleldhiaa.Ab
end
section
namespace Go.Proofs.Ytbchcbhleldhiaa.Ab
open Go Go.RowKit
set_option linter.unusedVariables false
set_option linter.unusedSimpArgs false
def valB (x : Int) : Bool := decide (-1000000000000 ≤ x) && decide (x ≤ 1000000000000)
def valsB (l : List Int) : Bool := l.all valB
def convOk (l : List Int) (k : Int) : Bool := decide (l.length ≤ 41) && valsB l && inZ 1000000000000 k
def convQ (l : List Int) (k : Int) (a v u : Nat) : Bool := decide ((v : Int) * l.getD a 0 + (u : Int) * (l.getD a 0 - l.getD (a - v) 0) ≤ (v : Int) * (k + l.getD (a + u) 0))
def convAt (l : List Int) (k : Int) (a : Nat) : Bool := (List.range a).all fun v => (List.range (l.length - a - 1)).all fun u => convQ l k a (v + 1) (u + 1)
def convB (l : List Int) (k : Int) : Bool := (List.range l.length).all (convAt l k)
theorem convAt_yes {l : List Int} {k : Int} {a : Nat} (h : ∀ v u, 1 ≤ v → v ≤ a → 1 ≤ u → a + u < l.length → convQ l k a v u = true) : convAt l k a = true := by
  simp only [convAt, List.all_eq_true, List.mem_range]
  exact fun v hv u hu => h (v + 1) (u + 1) (by omega) (by omega) (by omega) (by omega)
theorem convAt_no {l : List Int} {k : Int} {a v u : Nat} (h1 : 1 ≤ v) (h2 : v ≤ a) (h3 : 1 ≤ u) (h4 : a + u < l.length) (h : convQ l k a v u = false) : convAt l k a = false := by
  cases hr : convAt l k a with
  | false => rfl
  | true =>
    simp only [convAt, List.all_eq_true, List.mem_range] at hr
    have := hr (v - 1) (by omega) (u - 1) (by omega)
    rw [show v - 1 + 1 = v by omega, show u - 1 + 1 = u by omega, h] at this
    cases this
theorem convB_yes {l : List Int} {k : Int} (h : ∀ a, a < l.length → convAt l k a = true) : convB l k = true := by
  simp only [convB, List.all_eq_true, List.mem_range]; exact h
theorem convB_no {l : List Int} {k : Int} {a : Nat} (ha : a < l.length) (h : convAt l k a = false) : convB l k = false := by
  cases hr : convB l k with
  | false => rfl
  | true =>
    simp only [convB, List.all_eq_true, List.mem_range] at hr
    rw [hr a ha] at h; cases h
theorem vals_at {l : List Int} (h : valsB l = true) (i : Nat) : -1000000000000 ≤ l.getD i 0 ∧ l.getD i 0 ≤ 1000000000000 := by
  by_cases hi : i < l.length
  · simp only [valsB, List.all_eq_true] at h
    have := h l[i] (List.getElem_mem hi)
    simp only [valB, Bool.and_eq_true, decide_eq_true_eq] at this
    rw [List.getD_eq_getElem?_getD, List.getElem?_eq_getElem hi]; exact this
  · rw [List.getD_eq_getElem?_getD, List.getElem?_eq_none (by omega)]; exact ⟨by decide, by decide⟩
theorem mul_b {v : Nat} {x : Int} (hv : v ≤ 41) (h : -3000000000000 ≤ x ∧ x ≤ 3000000000000) : -123000000000000 ≤ (v : Int) * x ∧ (v : Int) * x ≤ 123000000000000 := by
  rcases Int.le_total 0 x with hx | hx
  · have := mul_in' (a := (v : Int)) (x := x) (A := 41) (B := 3000000000000) (by omega) (by omega); omega
  · have := mul_in' (a := (v : Int)) (x := -x) (A := 41) (B := 3000000000000) (by omega) (by omega)
    rw [Int.mul_neg] at this; omega
theorem at_z {m : Mem} {v : Value} {l : List Int} (h : IntsA m v l) {z : Int} {i : Nat} (hz : z = i) (hi : i < l.length) : iadA 1 v (.int .i64 z) = some (pAt v i) := by
  subst hz; exact h.at_ i hi
theorem vals_any (l : List Int) : (!l.any fun x => !valB x) = valsB l := by
  unfold valsB
  induction l with
  | nil => rfl
  | cons x l ih => rw [List.any_cons, List.all_cons, ← ih]; cases valB x <;> simp
theorem areValues_rc (m : Mem) (v : Value) (l : List Int) (h : IntsA m v l) : RC Try.prog 52 [v] m fun r new => r = .bool (valsB l) ∧ new = [] := by
  refine rc_of_run mixed ok_impl_areValues (by simp) (go_start _ _ _ ?_)
  simp (config := {implicitDefEqProofs := false, maxDischargeDepth := 20}) (disch := first | omega | (simp only [lenE]; done) | (simp only [lenE]; omega) | rfl | (simp only [lenE, markR_len]; done) | (simp only [lenE, markR_len]; omega)) only [runE, mapE, listE, initT_5, initT_6, initT_7, initT_8, resV, oneV, binA, unA, reduceCtorEq, Nat.reduceEqDiff, Nat.reduceAdd, Nat.reduceLT, Nat.reduceLeDiff, Nat.reduceMul, Nat.reduceSub, ↓reduceIte, decide_true, decide_false, Bool.true_eq_false, Bool.false_eq_true, Bool.not_true, Bool.not_false, if_true, if_false, and_true, true_and, memE, celE, w64, Nat.zero_add, Nat.add_zero, Nat.mul_one, putL, and_self, ldn, c_impl_areValues, r_impl_areValues]
  refine callH_rc (containsFunc_rc _ v _ l (fun x => !valB x) h.ro ⟨_, _, rfl, fun x m' _ => ?_⟩) ?_
  · refine rc_of_run mixed ok_impl_areValues_1 (by simp) (go_start _ _ _ ?_)
    simp (config := {implicitDefEqProofs := false, maxDischargeDepth := 20}) (disch := first | omega | (simp only [lenE]; done) | (simp only [lenE]; omega) | rfl | (simp only [lenE, markR_len]; done) | (simp only [lenE, markR_len]; omega)) only [runE, mapE, listE, initT_5, initT_6, initT_7, initT_8, resV, oneV, binA, unA, reduceCtorEq, Nat.reduceEqDiff, Nat.reduceAdd, Nat.reduceLT, Nat.reduceLeDiff, Nat.reduceMul, Nat.reduceSub, ↓reduceIte, decide_true, decide_false, Bool.true_eq_false, Bool.false_eq_true, Bool.not_true, Bool.not_false, if_true, if_false, and_true, true_and, memE, celE, w64, Nat.zero_add, Nat.add_zero, Nat.mul_one, putL, and_self, ldn, c_impl_areValues_1, r_impl_areValues_1]
    refine callH_rc (isNear_rc _ x 1000000000000 (by decide)) ?_
    rintro r new ⟨rfl, rfl⟩
    simp (config := {implicitDefEqProofs := false, maxDischargeDepth := 20}) (disch := first | omega | (simp only [lenE]; done) | (simp only [lenE]; omega) | rfl | (simp only [lenE, markR_len]; done) | (simp only [lenE, markR_len]; omega)) only [runE, mapE, listE, initT_5, initT_6, initT_7, initT_8, resV, oneV, binA, unA, reduceCtorEq, Nat.reduceEqDiff, Nat.reduceAdd, Nat.reduceLT, Nat.reduceLeDiff, Nat.reduceMul, Nat.reduceSub, ↓reduceIte, decide_true, decide_false, Bool.true_eq_false, Bool.false_eq_true, Bool.not_true, Bool.not_false, if_true, if_false, and_true, true_and, memE, celE, w64, Nat.zero_add, Nat.add_zero, Nat.mul_one, putL, and_self, ldn]
    exact newQ_nil ⟨rfl, rfl⟩
  rintro r new ⟨rfl, rfl⟩
  simp (config := {implicitDefEqProofs := false, maxDischargeDepth := 20}) (disch := first | omega | (simp only [lenE]; done) | (simp only [lenE]; omega) | rfl | (simp only [lenE, markR_len]; done) | (simp only [lenE, markR_len]; omega)) only [runE, mapE, listE, initT_5, initT_6, initT_7, initT_8, resV, oneV, binA, unA, reduceCtorEq, Nat.reduceEqDiff, Nat.reduceAdd, Nat.reduceLT, Nat.reduceLeDiff, Nat.reduceMul, Nat.reduceSub, ↓reduceIte, decide_true, decide_false, Bool.true_eq_false, Bool.false_eq_true, Bool.not_true, Bool.not_false, if_true, if_false, and_true, true_and, memE, celE, w64, Nat.zero_add, Nat.add_zero, Nat.mul_one, putL, and_self, ldn]
  refine newQ_nil ⟨?_, rfl⟩
  rw [vals_any]
theorem isConvexAt_rc (m : Mem) (v : Value) (l : List Int) (k : Int) (a : Nat) (h : IntsA m v l) (hl : l.length ≤ 41) (hv : valsB l = true) (hk : 0 ≤ k ∧ k ≤ 1000000000000) (ha : a < l.length) :
    RC Try.prog 53 [v, .int .i64 k, .int .i64 a] m fun r new => r = .bool (convAt l k a) ∧ new = [] := by
  refine rc_of_run mixed ok_impl_isConvexAt (by simp) (go_start _ _ _ ?_)
  have hr := h.ro
  simp (config := {implicitDefEqProofs := false, maxDischargeDepth := 20}) (disch := first | omega | (simp only [lenE]; done) | (simp only [lenE]; omega) | rfl | (simp only [lenE, markR_len]; done) | (simp only [lenE, markR_len]; omega)) only [runE, mapE, listE, initT_5, initT_6, initT_7, initT_8, resV, oneV, binA, unA, reduceCtorEq, Nat.reduceEqDiff, Nat.reduceAdd, Nat.reduceLT, Nat.reduceLeDiff, Nat.reduceMul, Nat.reduceSub, ↓reduceIte, decide_true, decide_false, Bool.true_eq_false, Bool.false_eq_true, Bool.not_true, Bool.not_false, if_true, if_false, and_true, true_and, memE, celE, w64, Nat.zero_add, Nat.add_zero, Nat.mul_one, putL, and_self, ldn, c_impl_isConvexAt, r_impl_isConvexAt]
  refine loop_inv mixed (fun s => ∃ (x : Nat), 1 ≤ x ∧ x ≤ a + 1 ∧ s.m = roM m ∧ (∀ w u, 1 ≤ w → w < x → 1 ≤ u → a + u < l.length → convQ l k a w u = true) ∧ s.t 0 = v ∧ s.t 1 = .int .i64 k ∧ s.t 2 = .int .i64 a ∧ s.t 7 = .int .i64 x) (fun s => a + 1 - (intOf (s.t 7)).toNat)
    ⟨1, by omega, by omega, rfl, fun w u h1 h2 => absurd h2 (by omega), rfl, rfl, rfl, rfl⟩ ?_
  rintro s ⟨x, hx1, hx2, tm, hall, t0, t1, t2, t7⟩
  by_cases hlt : x ≤ a
  · have hlt' : (x : Int) ≤ a := by omega
    simp (config := {implicitDefEqProofs := false, maxDischargeDepth := 20}) (disch := first | omega | (simp only [lenE]; done) | (simp only [lenE]; omega) | rfl | (simp only [lenE, markR_len]; done) | (simp only [lenE, markR_len]; omega)) only [runE, mapE, listE, initT_5, initT_6, initT_7, initT_8, resV, oneV, binA, unA, reduceCtorEq, Nat.reduceEqDiff, Nat.reduceAdd, Nat.reduceLT, Nat.reduceLeDiff, Nat.reduceMul, Nat.reduceSub, ↓reduceIte, decide_true, decide_false, Bool.true_eq_false, Bool.false_eq_true, Bool.not_true, Bool.not_false, if_true, if_false, and_true, true_and, memE, celE, w64, Nat.zero_add, Nat.add_zero, Nat.mul_one, putL, and_self, ldn, tm, t0, t1, t2, t7, hlt']
    refine loop_inv mixed (fun s => ∃ (u : Nat), 1 ≤ u ∧ u ≤ l.length ∧ s.m = roM m ∧ (∀ w, 1 ≤ w → w < u → a + w < l.length → convQ l k a x w = true) ∧ s.t 0 = v ∧ s.t 1 = .int .i64 k ∧ s.t 2 = .int .i64 a ∧ s.t 7 = .int .i64 x ∧ s.t 8 = .int .i64 u) (fun s => l.length - (intOf (s.t 8)).toNat)
      ⟨1, by omega, by omega, tm, fun w h1 h2 => absurd h2 (by omega), t0, t1, t2, t7, rfl⟩ ?_
    rintro s ⟨u, hu1, hu2, tm, hin, t0, t1, t2, t7, t8⟩
    by_cases hltu : a + u < l.length
    · have hltu' : (a : Int) + u < l.length := by omega
      have b1 := vals_at hv a
      have b2 := vals_at hv (a + u)
      have b3 := vals_at hv (a - x)
      have m1 := mul_b (v := x) (x := k + l.getD (a + u) 0) (by omega) (by omega)
      have m2 := mul_b (v := x) (x := l.getD a 0) (by omega) (by omega)
      have m3 := mul_b (v := u) (x := l.getD a 0 - l.getD (a - x) 0) (by omega) (by omega)
      have e1 := at_z hr (z := (a : Int) + u) (i := a + u) (by omega) hltu
      have e3 := at_z hr (z := (a : Int) - x) (i := a - x) (by omega) (by omega)
      by_cases hq : (x : Int) * (k + l.getD (a + u) 0) < (x : Int) * l.getD a 0 + (u : Int) * (l.getD a 0 - l.getD (a - x) 0)
      · simp (config := {implicitDefEqProofs := false, maxDischargeDepth := 20}) (disch := first | omega | (simp only [lenE]; done) | (simp only [lenE]; omega) | rfl | (simp only [lenE, markR_len]; done) | (simp only [lenE, markR_len]; omega)) only [runE, mapE, listE, initT_5, initT_6, initT_7, initT_8, resV, oneV, binA, unA, reduceCtorEq, Nat.reduceEqDiff, Nat.reduceAdd, Nat.reduceLT, Nat.reduceLeDiff, Nat.reduceMul, Nat.reduceSub, ↓reduceIte, decide_true, decide_false, Bool.true_eq_false, Bool.false_eq_true, Bool.not_true, Bool.not_false, if_true, if_false, and_true, true_and, memE, celE, w64, Nat.zero_add, Nat.add_zero, Nat.mul_one, putL, and_self, ldn, tm, t0, t1, t2, t7, t8, hr.len, hltu', e1, e3, hr.at_ a ha, hr.ld a ha, hr.ld (a + u) hltu, hr.ld (a - x) (by omega), hq]
        exact newQ_nil ⟨by rw [convAt_no (v := x) (u := u) hx1 hlt hu1 hltu (by simp only [convQ]; exact decide_eq_false (by omega))], rfl⟩
      · simp (config := {implicitDefEqProofs := false, maxDischargeDepth := 20}) (disch := first | omega | (simp only [lenE]; done) | (simp only [lenE]; omega) | rfl | (simp only [lenE, markR_len]; done) | (simp only [lenE, markR_len]; omega)) only [runE, mapE, listE, initT_5, initT_6, initT_7, initT_8, resV, oneV, binA, unA, reduceCtorEq, Nat.reduceEqDiff, Nat.reduceAdd, Nat.reduceLT, Nat.reduceLeDiff, Nat.reduceMul, Nat.reduceSub, ↓reduceIte, decide_true, decide_false, Bool.true_eq_false, Bool.false_eq_true, Bool.not_true, Bool.not_false, if_true, if_false, and_true, true_and, memE, celE, w64, Nat.zero_add, Nat.add_zero, Nat.mul_one, putL, and_self, ldn, tm, t0, t1, t2, t7, t8, hr.len, hltu', e1, e3, hr.at_ a ha, hr.ld a ha, hr.ld (a + u) hltu, hr.ld (a - x) (by omega), hq]
        refine ⟨⟨u + 1, by omega, by omega, fun w h1 h2 h3 => ?_, by simp⟩, by simp [intOf]; omega⟩
        by_cases e : w = u
        · rw [e]; simp only [convQ]; exact decide_eq_true (by omega)
        · exact hin w h1 (by omega) h3
    · have hltu' : ¬ ((a : Int) + u < l.length) := by omega
      simp (config := {implicitDefEqProofs := false, maxDischargeDepth := 20}) (disch := first | omega | (simp only [lenE]; done) | (simp only [lenE]; omega) | rfl | (simp only [lenE, markR_len]; done) | (simp only [lenE, markR_len]; omega)) only [runE, mapE, listE, initT_5, initT_6, initT_7, initT_8, resV, oneV, binA, unA, reduceCtorEq, Nat.reduceEqDiff, Nat.reduceAdd, Nat.reduceLT, Nat.reduceLeDiff, Nat.reduceMul, Nat.reduceSub, ↓reduceIte, decide_true, decide_false, Bool.true_eq_false, Bool.false_eq_true, Bool.not_true, Bool.not_false, if_true, if_false, and_true, true_and, memE, celE, w64, Nat.zero_add, Nat.add_zero, Nat.mul_one, putL, and_self, ldn, tm, t0, t1, t2, t7, t8, hr.len, hltu']
      refine ⟨⟨x + 1, by omega, by omega, fun w u' h1 h2 h3 h4 => ?_, by simp⟩, by simp [intOf]; omega⟩
      by_cases e : w = x
      · rw [e]; exact hin u' h3 (by omega) h4
      · exact hall w u' h1 (by omega) h3 h4
  · have hlt' : ¬ ((x : Int) ≤ a) := by omega
    simp (config := {implicitDefEqProofs := false, maxDischargeDepth := 20}) (disch := first | omega | (simp only [lenE]; done) | (simp only [lenE]; omega) | rfl | (simp only [lenE, markR_len]; done) | (simp only [lenE, markR_len]; omega)) only [runE, mapE, listE, initT_5, initT_6, initT_7, initT_8, resV, oneV, binA, unA, reduceCtorEq, Nat.reduceEqDiff, Nat.reduceAdd, Nat.reduceLT, Nat.reduceLeDiff, Nat.reduceMul, Nat.reduceSub, ↓reduceIte, decide_true, decide_false, Bool.true_eq_false, Bool.false_eq_true, Bool.not_true, Bool.not_false, if_true, if_false, and_true, true_and, memE, celE, w64, Nat.zero_add, Nat.add_zero, Nat.mul_one, putL, and_self, ldn, tm, t0, t1, t2, t7, hlt']
    exact newQ_nil ⟨by rw [convAt_yes fun w u h1 h2 h3 h4 => hall w u h1 (by omega) h3 h4], rfl⟩
theorem implConvex_rc (m : Mem) (v : Value) (l : List Int) (k : Int) (h : IntsA m v l) : RC Try.prog 21 [v, .int .i64 k] m (AnsV (.tuple #[.bool (convOk l k && convB l k), .bool (convOk l k)])) := by
  refine rc_of_run mixed ok_impl_IsConvexFor (by simp) (go_start _ _ _ ?_)
  have hr := h.ro
  have fin : convOk l k = false → newQ m (AnsV (.tuple #[.bool (convOk l k && convB l k), .bool (convOk l k)])) (.tuple #[.bool false, .bool false]) (roM m) := fun e => newQ_nil ⟨by rw [e]; rfl, noRo_nil⟩
  by_cases hl : l.length ≤ 41
  · have hl' : ¬ ((41 : Int) < l.length) := by omega
    simp (config := {implicitDefEqProofs := false, maxDischargeDepth := 20}) (disch := first | omega | (simp only [lenE]; done) | (simp only [lenE]; omega) | rfl | (simp only [lenE, markR_len]; done) | (simp only [lenE, markR_len]; omega)) only [runE, mapE, listE, initT_5, initT_6, initT_7, initT_8, resV, oneV, binA, unA, reduceCtorEq, Nat.reduceEqDiff, Nat.reduceAdd, Nat.reduceLT, Nat.reduceLeDiff, Nat.reduceMul, Nat.reduceSub, ↓reduceIte, decide_true, decide_false, Bool.true_eq_false, Bool.false_eq_true, Bool.not_true, Bool.not_false, if_true, if_false, and_true, true_and, memE, celE, w64, Nat.zero_add, Nat.add_zero, Nat.mul_one, putL, and_self, ldn, c_impl_IsConvexFor, r_impl_IsConvexFor, hr.len, gt_iff_lt, hl']
    refine callH_rc (areValues_rc _ v l hr) ?_
    rintro r new ⟨rfl, rfl⟩
    rw [List.append_nil]
    cases hv : valsB l with
    | false =>
      simp (config := {implicitDefEqProofs := false, maxDischargeDepth := 20}) (disch := first | omega | (simp only [lenE]; done) | (simp only [lenE]; omega) | rfl | (simp only [lenE, markR_len]; done) | (simp only [lenE, markR_len]; omega)) only [runE, mapE, listE, initT_5, initT_6, initT_7, initT_8, resV, oneV, binA, unA, reduceCtorEq, Nat.reduceEqDiff, Nat.reduceAdd, Nat.reduceLT, Nat.reduceLeDiff, Nat.reduceMul, Nat.reduceSub, ↓reduceIte, decide_true, decide_false, Bool.true_eq_false, Bool.false_eq_true, Bool.not_true, Bool.not_false, if_true, if_false, and_true, true_and, memE, celE, w64, Nat.zero_add, Nat.add_zero, Nat.mul_one, putL, and_self, ldn]
      exact fin (by simp [convOk, hv])
    | true =>
    simp (config := {implicitDefEqProofs := false, maxDischargeDepth := 20}) (disch := first | omega | (simp only [lenE]; done) | (simp only [lenE]; omega) | rfl | (simp only [lenE, markR_len]; done) | (simp only [lenE, markR_len]; omega)) only [runE, mapE, listE, initT_5, initT_6, initT_7, initT_8, resV, oneV, binA, unA, reduceCtorEq, Nat.reduceEqDiff, Nat.reduceAdd, Nat.reduceLT, Nat.reduceLeDiff, Nat.reduceMul, Nat.reduceSub, ↓reduceIte, decide_true, decide_false, Bool.true_eq_false, Bool.false_eq_true, Bool.not_true, Bool.not_false, if_true, if_false, and_true, true_and, memE, celE, w64, Nat.zero_add, Nat.add_zero, Nat.mul_one, putL, and_self, ldn]
    refine callH_rc (isWithin_rc _ _ _) ?_
    rintro r new ⟨rfl, rfl⟩
    rw [List.append_nil, show inB 1000000000000 k = inZ 1000000000000 k from rfl]
    cases hk : inZ 1000000000000 k with
    | false =>
      simp (config := {implicitDefEqProofs := false, maxDischargeDepth := 20}) (disch := first | omega | (simp only [lenE]; done) | (simp only [lenE]; omega) | rfl | (simp only [lenE, markR_len]; done) | (simp only [lenE, markR_len]; omega)) only [runE, mapE, listE, initT_5, initT_6, initT_7, initT_8, resV, oneV, binA, unA, reduceCtorEq, Nat.reduceEqDiff, Nat.reduceAdd, Nat.reduceLT, Nat.reduceLeDiff, Nat.reduceMul, Nat.reduceSub, ↓reduceIte, decide_true, decide_false, Bool.true_eq_false, Bool.false_eq_true, Bool.not_true, Bool.not_false, if_true, if_false, and_true, true_and, memE, celE, w64, Nat.zero_add, Nat.add_zero, Nat.mul_one, putL, and_self, ldn]
      exact fin (by simp [convOk, hk])
    | true =>
    have hok : convOk l k = true := by simp [convOk, hv, hk, hl]
    have hk' : 0 ≤ k ∧ k ≤ 1000000000000 := by simpa only [inZ, Bool.and_eq_true, decide_eq_true_eq] using hk
    rw [hok]
    simp (config := {implicitDefEqProofs := false, maxDischargeDepth := 20}) (disch := first | omega | (simp only [lenE]; done) | (simp only [lenE]; omega) | rfl | (simp only [lenE, markR_len]; done) | (simp only [lenE, markR_len]; omega)) only [runE, mapE, listE, initT_5, initT_6, initT_7, initT_8, resV, oneV, binA, unA, reduceCtorEq, Nat.reduceEqDiff, Nat.reduceAdd, Nat.reduceLT, Nat.reduceLeDiff, Nat.reduceMul, Nat.reduceSub, ↓reduceIte, decide_true, decide_false, Bool.true_eq_false, Bool.false_eq_true, Bool.not_true, Bool.not_false, if_true, if_false, and_true, true_and, memE, celE, w64, Nat.zero_add, Nat.add_zero, Nat.mul_one, putL, and_self, ldn, hr.len]
    refine loop_inv mixed (fun s => ∃ (a : Nat), a ≤ l.length ∧ s.m = roM m ∧ (∀ b, b < a → convAt l k b = true) ∧ s.t 0 = v ∧ s.t 1 = .int .i64 k ∧ s.t 21 = .int .i64 l.length ∧ s.t 22 = .int .i64 a) (fun s => l.length - (intOf (s.t 22)).toNat)
      ⟨0, by omega, rfl, fun b hb => absurd hb (by omega), rfl, rfl, rfl, rfl⟩ ?_
    rintro s ⟨a, ha, tm, hall, t0, t1, t21, t22⟩
    by_cases hlt : a < l.length
    · have hlt' : (a : Int) < l.length := by omega
      simp (config := {implicitDefEqProofs := false, maxDischargeDepth := 20}) (disch := first | omega | (simp only [lenE]; done) | (simp only [lenE]; omega) | rfl | (simp only [lenE, markR_len]; done) | (simp only [lenE, markR_len]; omega)) only [runE, mapE, listE, initT_5, initT_6, initT_7, initT_8, resV, oneV, binA, unA, reduceCtorEq, Nat.reduceEqDiff, Nat.reduceAdd, Nat.reduceLT, Nat.reduceLeDiff, Nat.reduceMul, Nat.reduceSub, ↓reduceIte, decide_true, decide_false, Bool.true_eq_false, Bool.false_eq_true, Bool.not_true, Bool.not_false, if_true, if_false, and_true, true_and, memE, celE, w64, Nat.zero_add, Nat.add_zero, Nat.mul_one, putL, and_self, ldn, tm, t0, t1, t21, t22, hlt']
      refine callH_rc (isConvexAt_rc _ v l k a hr hl hv hk' hlt) ?_
      rintro r new ⟨rfl, rfl⟩
      rw [List.append_nil]
      cases hc : convAt l k a with
      | false =>
        simp (config := {implicitDefEqProofs := false, maxDischargeDepth := 20}) (disch := first | omega | (simp only [lenE]; done) | (simp only [lenE]; omega) | rfl | (simp only [lenE, markR_len]; done) | (simp only [lenE, markR_len]; omega)) only [runE, mapE, listE, initT_5, initT_6, initT_7, initT_8, resV, oneV, binA, unA, reduceCtorEq, Nat.reduceEqDiff, Nat.reduceAdd, Nat.reduceLT, Nat.reduceLeDiff, Nat.reduceMul, Nat.reduceSub, ↓reduceIte, decide_true, decide_false, Bool.true_eq_false, Bool.false_eq_true, Bool.not_true, Bool.not_false, if_true, if_false, and_true, true_and, memE, celE, w64, Nat.zero_add, Nat.add_zero, Nat.mul_one, putL, and_self, ldn, tm, t0, t1, t21, t22]
        exact newQ_nil ⟨by rw [convB_no hlt hc]; rfl, noRo_nil⟩
      | true =>
        simp (config := {implicitDefEqProofs := false, maxDischargeDepth := 20}) (disch := first | omega | (simp only [lenE]; done) | (simp only [lenE]; omega) | rfl | (simp only [lenE, markR_len]; done) | (simp only [lenE, markR_len]; omega)) only [runE, mapE, listE, initT_5, initT_6, initT_7, initT_8, resV, oneV, binA, unA, reduceCtorEq, Nat.reduceEqDiff, Nat.reduceAdd, Nat.reduceLT, Nat.reduceLeDiff, Nat.reduceMul, Nat.reduceSub, ↓reduceIte, decide_true, decide_false, Bool.true_eq_false, Bool.false_eq_true, Bool.not_true, Bool.not_false, if_true, if_false, and_true, true_and, memE, celE, w64, Nat.zero_add, Nat.add_zero, Nat.mul_one, putL, and_self, ldn, tm, t0, t1, t21, t22]
        refine ⟨⟨a + 1, by omega, fun b hb => ?_, by simp⟩, by simp [intOf]; omega⟩
        by_cases e : b = a
        · rw [e]; exact hc
        · exact hall b (by omega)
    · have hlt' : ¬ ((a : Int) < l.length) := by omega
      simp (config := {implicitDefEqProofs := false, maxDischargeDepth := 20}) (disch := first | omega | (simp only [lenE]; done) | (simp only [lenE]; omega) | rfl | (simp only [lenE, markR_len]; done) | (simp only [lenE, markR_len]; omega)) only [runE, mapE, listE, initT_5, initT_6, initT_7, initT_8, resV, oneV, binA, unA, reduceCtorEq, Nat.reduceEqDiff, Nat.reduceAdd, Nat.reduceLT, Nat.reduceLeDiff, Nat.reduceMul, Nat.reduceSub, ↓reduceIte, decide_true, decide_false, Bool.true_eq_false, Bool.false_eq_true, Bool.not_true, Bool.not_false, if_true, if_false, and_true, true_and, memE, celE, w64, Nat.zero_add, Nat.add_zero, Nat.mul_one, putL, and_self, ldn, tm, t0, t1, t21, t22, hlt']
      exact newQ_nil ⟨by rw [convB_yes fun b hb => hall b (by omega)]; rfl, noRo_nil⟩
  · have hl' : (41 : Int) < l.length := by omega
    simp (config := {implicitDefEqProofs := false, maxDischargeDepth := 20}) (disch := first | omega | (simp only [lenE]; done) | (simp only [lenE]; omega) | rfl | (simp only [lenE, markR_len]; done) | (simp only [lenE, markR_len]; omega)) only [runE, mapE, listE, initT_5, initT_6, initT_7, initT_8, resV, oneV, binA, unA, reduceCtorEq, Nat.reduceEqDiff, Nat.reduceAdd, Nat.reduceLT, Nat.reduceLeDiff, Nat.reduceMul, Nat.reduceSub, ↓reduceIte, decide_true, decide_false, Bool.true_eq_false, Bool.false_eq_true, Bool.not_true, Bool.not_false, if_true, if_false, and_true, true_and, memE, celE, w64, Nat.zero_add, Nat.add_zero, Nat.mul_one, putL, and_self, ldn, c_impl_IsConvexFor, r_impl_IsConvexFor, hr.len, gt_iff_lt, hl']
    exact fin (by simp [convOk, hl])
theorem specConvex_rc (m : Mem) (v : Value) (l : List Int) (k : Int) (h : IntsA m v l) : RC Try.prog 22 [v, .int .i64 k] m (AnsV (.tuple #[.bool (convOk l k && convB l k), .bool (convOk l k)])) := by
  refine rc_of_run mixed ok_spec_IsConvexFor (by simp) (go_start _ _ _ ?_)
  have hr := h.ro
  have fin : convOk l k = false → newQ m (AnsV (.tuple #[.bool (convOk l k && convB l k), .bool (convOk l k)])) (.tuple #[.bool false, .bool false]) (roM m) := fun e => newQ_nil ⟨by rw [e]; rfl, noRo_nil⟩
  simp (config := {implicitDefEqProofs := false, maxDischargeDepth := 20}) (disch := first | omega | (simp only [lenE]; done) | (simp only [lenE]; omega) | rfl | (simp only [lenE, markR_len]; done) | (simp only [lenE, markR_len]; omega)) only [runE, mapE, listE, initT_5, initT_6, initT_7, initT_8, resV, oneV, binA, unA, reduceCtorEq, Nat.reduceEqDiff, Nat.reduceAdd, Nat.reduceLT, Nat.reduceLeDiff, Nat.reduceMul, Nat.reduceSub, ↓reduceIte, decide_true, decide_false, Bool.true_eq_false, Bool.false_eq_true, Bool.not_true, Bool.not_false, if_true, if_false, and_true, true_and, memE, celE, w64, Nat.zero_add, Nat.add_zero, Nat.mul_one, putL, and_self, ldn, c_spec_IsConvexFor, r_spec_IsConvexFor]
  refine loop_inv mixed (fun s => ∃ (i : Nat), i ≤ l.length ∧ i ≤ 42 ∧ s.m = roM m ∧ (∀ j, j < i → valB (l.getD j 0) = true) ∧ s.t 0 = v ∧ s.t 1 = .int .i64 k ∧ s.t 6 = .int .i64 i) (fun s => 43 - (intOf (s.t 6)).toNat)
    ⟨0, by omega, by omega, rfl, fun j hj => absurd hj (by omega), rfl, rfl, rfl⟩ ?_
  rintro s ⟨i, hi, hi42, tm, hall, t0, t1, t6⟩
  by_cases hgo : i < l.length ∧ i ≤ 41
  · have g1 : (i : Int) < l.length := by omega
    have g2 : (i : Int) ≤ 41 := by omega
    simp (config := {implicitDefEqProofs := false, maxDischargeDepth := 20}) (disch := first | omega | (simp only [lenE]; done) | (simp only [lenE]; omega) | rfl | (simp only [lenE, markR_len]; done) | (simp only [lenE, markR_len]; omega)) only [runE, mapE, listE, initT_5, initT_6, initT_7, initT_8, resV, oneV, binA, unA, reduceCtorEq, Nat.reduceEqDiff, Nat.reduceAdd, Nat.reduceLT, Nat.reduceLeDiff, Nat.reduceMul, Nat.reduceSub, ↓reduceIte, decide_true, decide_false, Bool.true_eq_false, Bool.false_eq_true, Bool.not_true, Bool.not_false, if_true, if_false, and_true, true_and, memE, celE, w64, Nat.zero_add, Nat.add_zero, Nat.mul_one, putL, and_self, ldn, tm, t0, t1, t6, hr.len, g1, g2, hr.at_ i hgo.1, hr.ld i hgo.1]
    refine callH_rc (l1In_rc _ _ _ _) ?_
    rintro r new ⟨rfl, rfl⟩
    rw [List.append_nil, show (decide ((-1000000000000 : Int) ≤ l.getD i 0) && decide (l.getD i 0 ≤ 1000000000000)) = valB (l.getD i 0) from rfl]
    cases hv : valB (l.getD i 0) with
    | false =>
      simp (config := {implicitDefEqProofs := false, maxDischargeDepth := 20}) (disch := first | omega | (simp only [lenE]; done) | (simp only [lenE]; omega) | rfl | (simp only [lenE, markR_len]; done) | (simp only [lenE, markR_len]; omega)) only [runE, mapE, listE, initT_5, initT_6, initT_7, initT_8, resV, oneV, binA, unA, reduceCtorEq, Nat.reduceEqDiff, Nat.reduceAdd, Nat.reduceLT, Nat.reduceLeDiff, Nat.reduceMul, Nat.reduceSub, ↓reduceIte, decide_true, decide_false, Bool.true_eq_false, Bool.false_eq_true, Bool.not_true, Bool.not_false, if_true, if_false, and_true, true_and, memE, celE, w64, Nat.zero_add, Nat.add_zero, Nat.mul_one, putL, and_self, ldn, tm, t0, t1, t6]
      refine fin ?_
      have : valsB l = false := by
        cases hr : valsB l with
        | false => rfl
        | true =>
          have := vals_at hr i
          have h2 : valB (l.getD i 0) = true := by simp only [valB, Bool.and_eq_true, decide_eq_true_eq]; exact this
          rw [h2] at hv; cases hv
      simp [convOk, this]
    | true =>
      simp (config := {implicitDefEqProofs := false, maxDischargeDepth := 20}) (disch := first | omega | (simp only [lenE]; done) | (simp only [lenE]; omega) | rfl | (simp only [lenE, markR_len]; done) | (simp only [lenE, markR_len]; omega)) only [runE, mapE, listE, initT_5, initT_6, initT_7, initT_8, resV, oneV, binA, unA, reduceCtorEq, Nat.reduceEqDiff, Nat.reduceAdd, Nat.reduceLT, Nat.reduceLeDiff, Nat.reduceMul, Nat.reduceSub, ↓reduceIte, decide_true, decide_false, Bool.true_eq_false, Bool.false_eq_true, Bool.not_true, Bool.not_false, if_true, if_false, and_true, true_and, memE, celE, w64, Nat.zero_add, Nat.add_zero, Nat.mul_one, putL, and_self, ldn, tm, t0, t1, t6]
      refine ⟨⟨i + 1, by omega, by omega, fun j hj => ?_, by simp⟩, by simp [intOf]; omega⟩
      by_cases e : j = i
      · rw [e]; exact hv
      · exact hall j (by omega)
  · have stop : (decide ((i : Int) < l.length) && decide ((i : Int) ≤ 41)) = false := by
      by_cases g1 : (i : Int) < l.length
      · have : ¬ ((i : Int) ≤ 41) := by omega
        simp [this]
      · simp [g1]
    have hstep : ∀ {X : Prop}, ((i : Int) < l.length → ¬ ((i : Int) ≤ 41) → X) → (¬ ((i : Int) < l.length) → X) → X := fun a b => by
      by_cases g1 : (i : Int) < l.length
      · exact a g1 (by omega)
      · exact b g1
    have tail : 41 < l.length ∨ (l.length ≤ 41 ∧ valsB l = true) := by
      by_cases hl : l.length ≤ 41
      · right
        refine ⟨hl, ?_⟩
        simp only [valsB, List.all_eq_true]
        intro x hx
        obtain ⟨j, hj, rfl⟩ := List.getElem_of_mem hx
        have := hall j (by omega)
        rwa [List.getD_eq_getElem?_getD, List.getElem?_eq_getElem hj] at this
      · left; omega
    have hb := hr.bd
    rcases tail with hl | ⟨hl, hv⟩
    · have hl' : (41 : Int) < l.length := by omega
      have key : convOk l k = false := by
        have : ¬ (l.length ≤ 41) := by omega
        simp [convOk, this]
      refine hstep (fun g1 g2 => ?_) (fun g1 => ?_)
      · simp (config := {implicitDefEqProofs := false, maxDischargeDepth := 20}) (disch := first | omega | (simp only [lenE]; done) | (simp only [lenE]; omega) | rfl | (simp only [lenE, markR_len]; done) | (simp only [lenE, markR_len]; omega)) only [runE, mapE, listE, initT_5, initT_6, initT_7, initT_8, resV, oneV, binA, unA, reduceCtorEq, Nat.reduceEqDiff, Nat.reduceAdd, Nat.reduceLT, Nat.reduceLeDiff, Nat.reduceMul, Nat.reduceSub, ↓reduceIte, decide_true, decide_false, Bool.true_eq_false, Bool.false_eq_true, Bool.not_true, Bool.not_false, if_true, if_false, and_true, true_and, memE, celE, w64, Nat.zero_add, Nat.add_zero, Nat.mul_one, putL, and_self, ldn, tm, t0, t1, t6, hr.len, g1, g2, gt_iff_lt, hl']
        exact fin key
      · simp (config := {implicitDefEqProofs := false, maxDischargeDepth := 20}) (disch := first | omega | (simp only [lenE]; done) | (simp only [lenE]; omega) | rfl | (simp only [lenE, markR_len]; done) | (simp only [lenE, markR_len]; omega)) only [runE, mapE, listE, initT_5, initT_6, initT_7, initT_8, resV, oneV, binA, unA, reduceCtorEq, Nat.reduceEqDiff, Nat.reduceAdd, Nat.reduceLT, Nat.reduceLeDiff, Nat.reduceMul, Nat.reduceSub, ↓reduceIte, decide_true, decide_false, Bool.true_eq_false, Bool.false_eq_true, Bool.not_true, Bool.not_false, if_true, if_false, and_true, true_and, memE, celE, w64, Nat.zero_add, Nat.add_zero, Nat.mul_one, putL, and_self, ldn, tm, t0, t1, t6, hr.len, g1, gt_iff_lt, hl']
        exact fin key
    · have hl' : ¬ ((41 : Int) < l.length) := by omega
      have g1 : ¬ ((i : Int) < l.length) := by omega
      simp (config := {implicitDefEqProofs := false, maxDischargeDepth := 20}) (disch := first | omega | (simp only [lenE]; done) | (simp only [lenE]; omega) | rfl | (simp only [lenE, markR_len]; done) | (simp only [lenE, markR_len]; omega)) only [runE, mapE, listE, initT_5, initT_6, initT_7, initT_8, resV, oneV, binA, unA, reduceCtorEq, Nat.reduceEqDiff, Nat.reduceAdd, Nat.reduceLT, Nat.reduceLeDiff, Nat.reduceMul, Nat.reduceSub, ↓reduceIte, decide_true, decide_false, Bool.true_eq_false, Bool.false_eq_true, Bool.not_true, Bool.not_false, if_true, if_false, and_true, true_and, memE, celE, w64, Nat.zero_add, Nat.add_zero, Nat.mul_one, putL, and_self, ldn, tm, t0, t1, t6, hr.len, g1, gt_iff_lt, hl']
      refine callH_rc (l1In_rc _ _ _ _) ?_
      rintro r new ⟨rfl, rfl⟩
      rw [List.append_nil, show (decide ((0 : Int) ≤ k) && decide (k ≤ 1000000000000)) = inZ 1000000000000 k from rfl]
      cases hk : inZ 1000000000000 k with
      | false =>
        simp (config := {implicitDefEqProofs := false, maxDischargeDepth := 20}) (disch := first | omega | (simp only [lenE]; done) | (simp only [lenE]; omega) | rfl | (simp only [lenE, markR_len]; done) | (simp only [lenE, markR_len]; omega)) only [runE, mapE, listE, initT_5, initT_6, initT_7, initT_8, resV, oneV, binA, unA, reduceCtorEq, Nat.reduceEqDiff, Nat.reduceAdd, Nat.reduceLT, Nat.reduceLeDiff, Nat.reduceMul, Nat.reduceSub, ↓reduceIte, decide_true, decide_false, Bool.true_eq_false, Bool.false_eq_true, Bool.not_true, Bool.not_false, if_true, if_false, and_true, true_and, memE, celE, w64, Nat.zero_add, Nat.add_zero, Nat.mul_one, putL, and_self, ldn]
        exact fin (by simp [convOk, hk])
      | true =>
      have hok : convOk l k = true := by simp [convOk, hv, hk, hl]
      have hk' : 0 ≤ k ∧ k ≤ 1000000000000 := by simpa only [inZ, Bool.and_eq_true, decide_eq_true_eq] using hk
      rw [hok]
      simp (config := {implicitDefEqProofs := false, maxDischargeDepth := 20}) (disch := first | omega | (simp only [lenE]; done) | (simp only [lenE]; omega) | rfl | (simp only [lenE, markR_len]; done) | (simp only [lenE, markR_len]; omega)) only [runE, mapE, listE, initT_5, initT_6, initT_7, initT_8, resV, oneV, binA, unA, reduceCtorEq, Nat.reduceEqDiff, Nat.reduceAdd, Nat.reduceLT, Nat.reduceLeDiff, Nat.reduceMul, Nat.reduceSub, ↓reduceIte, decide_true, decide_false, Bool.true_eq_false, Bool.false_eq_true, Bool.not_true, Bool.not_false, if_true, if_false, and_true, true_and, memE, celE, w64, Nat.zero_add, Nat.add_zero, Nat.mul_one, putL, and_self, ldn, t0, t1]
      refine loop_inv mixed (fun s => ∃ (a : Nat), a ≤ l.length ∧ s.m = roM m ∧ (∀ b, b < a → convAt l k b = true) ∧ s.t 0 = v ∧ s.t 1 = .int .i64 k ∧ s.t 7 = .int .i64 a) (fun s => l.length - (intOf (s.t 7)).toNat)
        ⟨0, by omega, rfl, fun b hb => absurd hb (by omega), by simp only [put_t, put_t', put_m, putT_t, putT_t', putT_m, init_t, init_m, initT_0, initT_1, initT_2, initT_3, initT_4, initT_5, initT_6, initT_7, initT_8, Nat.reduceEqDiff, ↓reduceIte, t0], by simp only [put_t, put_t', put_m, putT_t, putT_t', putT_m, init_t, init_m, initT_0, initT_1, initT_2, initT_3, initT_4, initT_5, initT_6, initT_7, initT_8, Nat.reduceEqDiff, ↓reduceIte, t1], rfl⟩ ?_
      rintro s ⟨a, ha, tm, hall, t0, t1, t7⟩
      by_cases hlt : a < l.length
      · have hlt' : (a : Int) < l.length := by omega
        simp (config := {implicitDefEqProofs := false, maxDischargeDepth := 20}) (disch := first | omega | (simp only [lenE]; done) | (simp only [lenE]; omega) | rfl | (simp only [lenE, markR_len]; done) | (simp only [lenE, markR_len]; omega)) only [runE, mapE, listE, initT_5, initT_6, initT_7, initT_8, resV, oneV, binA, unA, reduceCtorEq, Nat.reduceEqDiff, Nat.reduceAdd, Nat.reduceLT, Nat.reduceLeDiff, Nat.reduceMul, Nat.reduceSub, ↓reduceIte, decide_true, decide_false, Bool.true_eq_false, Bool.false_eq_true, Bool.not_true, Bool.not_false, if_true, if_false, and_true, true_and, memE, celE, w64, Nat.zero_add, Nat.add_zero, Nat.mul_one, putL, and_self, ldn, tm, t0, t1, t7, hr.len, hlt']
        refine loop_inv mixed (fun s => ∃ (x : Nat), 1 ≤ x ∧ x ≤ a + 1 ∧ s.m = roM m ∧ (∀ w u, 1 ≤ w → w < x → 1 ≤ u → a + u < l.length → convQ l k a w u = true) ∧ s.t 0 = v ∧ s.t 1 = .int .i64 k ∧ s.t 7 = .int .i64 a ∧ s.t 8 = .int .i64 x) (fun s => a + 1 - (intOf (s.t 8)).toNat)
          ⟨1, by omega, by omega, tm, fun w u h1 h2 => absurd h2 (by omega), t0, t1, t7, rfl⟩ ?_
        rintro s ⟨x, hx1, hx2, tm, hall2, t0, t1, t7, t8⟩
        by_cases hltx : x ≤ a
        · have hltx' : (x : Int) ≤ a := by omega
          simp (config := {implicitDefEqProofs := false, maxDischargeDepth := 20}) (disch := first | omega | (simp only [lenE]; done) | (simp only [lenE]; omega) | rfl | (simp only [lenE, markR_len]; done) | (simp only [lenE, markR_len]; omega)) only [runE, mapE, listE, initT_5, initT_6, initT_7, initT_8, resV, oneV, binA, unA, reduceCtorEq, Nat.reduceEqDiff, Nat.reduceAdd, Nat.reduceLT, Nat.reduceLeDiff, Nat.reduceMul, Nat.reduceSub, ↓reduceIte, decide_true, decide_false, Bool.true_eq_false, Bool.false_eq_true, Bool.not_true, Bool.not_false, if_true, if_false, and_true, true_and, memE, celE, w64, Nat.zero_add, Nat.add_zero, Nat.mul_one, putL, and_self, ldn, tm, t0, t1, t7, t8, hltx']
          refine loop_inv mixed (fun s => ∃ (u : Nat), 1 ≤ u ∧ u ≤ l.length ∧ s.m = roM m ∧ (∀ w, 1 ≤ w → w < u → a + w < l.length → convQ l k a x w = true) ∧ s.t 0 = v ∧ s.t 1 = .int .i64 k ∧ s.t 7 = .int .i64 a ∧ s.t 8 = .int .i64 x ∧ s.t 9 = .int .i64 u) (fun s => l.length - (intOf (s.t 9)).toNat)
            ⟨1, by omega, by omega, tm, fun w h1 h2 => absurd h2 (by omega), t0, t1, t7, t8, rfl⟩ ?_
          rintro s ⟨u, hu1, hu2, tm, hin, t0, t1, t7, t8, t9⟩
          by_cases hltu : a + u < l.length
          · have hltu' : (a : Int) + u < l.length := by omega
            have b1 := vals_at hv a
            have b2 := vals_at hv (a + u)
            have b3 := vals_at hv (a - x)
            have m1 := mul_b (v := x) (x := k + l.getD (a + u) 0) (by omega) (by omega)
            have m2 := mul_b (v := x) (x := l.getD a 0) (by omega) (by omega)
            have m3 := mul_b (v := u) (x := l.getD a 0 - l.getD (a - x) 0) (by omega) (by omega)
            have e1 := at_z hr (z := (a : Int) + u) (i := a + u) (by omega) hltu
            have e3 := at_z hr (z := (a : Int) - x) (i := a - x) (by omega) (by omega)
            by_cases hq : (x : Int) * (k + l.getD (a + u) 0) < (x : Int) * l.getD a 0 + (u : Int) * (l.getD a 0 - l.getD (a - x) 0)
            · simp (config := {implicitDefEqProofs := false, maxDischargeDepth := 20}) (disch := first | omega | (simp only [lenE]; done) | (simp only [lenE]; omega) | rfl | (simp only [lenE, markR_len]; done) | (simp only [lenE, markR_len]; omega)) only [runE, mapE, listE, initT_5, initT_6, initT_7, initT_8, resV, oneV, binA, unA, reduceCtorEq, Nat.reduceEqDiff, Nat.reduceAdd, Nat.reduceLT, Nat.reduceLeDiff, Nat.reduceMul, Nat.reduceSub, ↓reduceIte, decide_true, decide_false, Bool.true_eq_false, Bool.false_eq_true, Bool.not_true, Bool.not_false, if_true, if_false, and_true, true_and, memE, celE, w64, Nat.zero_add, Nat.add_zero, Nat.mul_one, putL, and_self, ldn, tm, t0, t1, t7, t8, t9, hr.len, hltu', e1, e3, hr.at_ a hlt, hr.ld a hlt, hr.ld (a + u) hltu, hr.ld (a - x) (by omega), hq]
              exact newQ_nil ⟨by rw [convB_no hlt (convAt_no (v := x) (u := u) hx1 hltx hu1 hltu (by simp only [convQ]; exact decide_eq_false (by omega)))]; rfl, noRo_nil⟩
            · simp (config := {implicitDefEqProofs := false, maxDischargeDepth := 20}) (disch := first | omega | (simp only [lenE]; done) | (simp only [lenE]; omega) | rfl | (simp only [lenE, markR_len]; done) | (simp only [lenE, markR_len]; omega)) only [runE, mapE, listE, initT_5, initT_6, initT_7, initT_8, resV, oneV, binA, unA, reduceCtorEq, Nat.reduceEqDiff, Nat.reduceAdd, Nat.reduceLT, Nat.reduceLeDiff, Nat.reduceMul, Nat.reduceSub, ↓reduceIte, decide_true, decide_false, Bool.true_eq_false, Bool.false_eq_true, Bool.not_true, Bool.not_false, if_true, if_false, and_true, true_and, memE, celE, w64, Nat.zero_add, Nat.add_zero, Nat.mul_one, putL, and_self, ldn, tm, t0, t1, t7, t8, t9, hr.len, hltu', e1, e3, hr.at_ a hlt, hr.ld a hlt, hr.ld (a + u) hltu, hr.ld (a - x) (by omega), hq]
              refine ⟨⟨u + 1, by omega, by omega, fun w h1 h2 h3 => ?_, by simp⟩, by simp [intOf]; omega⟩
              by_cases e : w = u
              · rw [e]; simp only [convQ]; exact decide_eq_true (by omega)
              · exact hin w h1 (by omega) h3
          · have hltu' : ¬ ((a : Int) + u < l.length) := by omega
            simp (config := {implicitDefEqProofs := false, maxDischargeDepth := 20}) (disch := first | omega | (simp only [lenE]; done) | (simp only [lenE]; omega) | rfl | (simp only [lenE, markR_len]; done) | (simp only [lenE, markR_len]; omega)) only [runE, mapE, listE, initT_5, initT_6, initT_7, initT_8, resV, oneV, binA, unA, reduceCtorEq, Nat.reduceEqDiff, Nat.reduceAdd, Nat.reduceLT, Nat.reduceLeDiff, Nat.reduceMul, Nat.reduceSub, ↓reduceIte, decide_true, decide_false, Bool.true_eq_false, Bool.false_eq_true, Bool.not_true, Bool.not_false, if_true, if_false, and_true, true_and, memE, celE, w64, Nat.zero_add, Nat.add_zero, Nat.mul_one, putL, and_self, ldn, tm, t0, t1, t7, t8, t9, hr.len, hltu']
            refine ⟨⟨x + 1, by omega, by omega, fun w u' h1 h2 h3 h4 => ?_, by simp⟩, by simp [intOf]; omega⟩
            by_cases e : w = x
            · rw [e]; exact hin u' h3 (by omega) h4
            · exact hall2 w u' h1 (by omega) h3 h4
        · have hltx' : ¬ ((x : Int) ≤ a) := by omega
          simp (config := {implicitDefEqProofs := false, maxDischargeDepth := 20}) (disch := first | omega | (simp only [lenE]; done) | (simp only [lenE]; omega) | rfl | (simp only [lenE, markR_len]; done) | (simp only [lenE, markR_len]; omega)) only [runE, mapE, listE, initT_5, initT_6, initT_7, initT_8, resV, oneV, binA, unA, reduceCtorEq, Nat.reduceEqDiff, Nat.reduceAdd, Nat.reduceLT, Nat.reduceLeDiff, Nat.reduceMul, Nat.reduceSub, ↓reduceIte, decide_true, decide_false, Bool.true_eq_false, Bool.false_eq_true, Bool.not_true, Bool.not_false, if_true, if_false, and_true, true_and, memE, celE, w64, Nat.zero_add, Nat.add_zero, Nat.mul_one, putL, and_self, ldn, tm, t0, t1, t7, t8, hltx']
          refine ⟨⟨a + 1, by omega, fun b hb => ?_, by simp⟩, by simp [intOf]; omega⟩
          by_cases e : b = a
          · rw [e]; exact convAt_yes fun w u h1 h2 h3 h4 => hall2 w u h1 (by omega) h3 h4
          · exact hall b (by omega)
      · have hlt' : ¬ ((a : Int) < l.length) := by omega
        simp (config := {implicitDefEqProofs := false, maxDischargeDepth := 20}) (disch := first | omega | (simp only [lenE]; done) | (simp only [lenE]; omega) | rfl | (simp only [lenE, markR_len]; done) | (simp only [lenE, markR_len]; omega)) only [runE, mapE, listE, initT_5, initT_6, initT_7, initT_8, resV, oneV, binA, unA, reduceCtorEq, Nat.reduceEqDiff, Nat.reduceAdd, Nat.reduceLT, Nat.reduceLeDiff, Nat.reduceMul, Nat.reduceSub, ↓reduceIte, decide_true, decide_false, Bool.true_eq_false, Bool.false_eq_true, Bool.not_true, Bool.not_false, if_true, if_false, and_true, true_and, memE, celE, w64, Nat.zero_add, Nat.add_zero, Nat.mul_one, putL, and_self, ldn, tm, t0, t1, t7, hr.len, hlt']
        exact newQ_nil ⟨by rw [convB_yes fun b hb => hall b (by omega)]; rfl, noRo_nil⟩
end Go.Proofs.Ytbchcbhleldhiaa.Ab
end
section
namespace Go.Proofs.Ytbchcbhleldhiaa.Ab
open Go Go.RowKit
set_option linter.unusedVariables false
set_option linter.unusedSimpArgs false
def rowVB (l : List Int) : Bool := decide (l.length = 21) && valsB l
def tabVB (p : Pr) (T : List (List Int)) : Bool := decide ((T.length : Int) = p.turns + 1) && T.all rowVB
def lastB (p : Pr) (T : List (List Int)) : Bool := (T.getD p.turns.toNat []).all fun x => decide (x ≤ 0)
def underI (p : Pr) (T : List (List Int)) (t i : Nat) : Bool :=
  decide ((T.getD t []).getD i 0 ≤ p.move (T.getD (t + 1) []) ((i : Int) - 10) (p.up (T.getD (t + 1) []) ((i : Int) - 10) (p.turns.toNat - 1 - t)) (p.turns.toNat - 1 - t))
def underB (p : Pr) (T : List (List Int)) (t : Nat) : Bool := (List.range 21).all (underI p T t)
def proofB (p : Pr) (T : List (List Int)) : Bool := (tabVB p T && lastB p T) && (List.range p.turns.toNat).all (underB p T)
theorem tabV_row {p : Pr} {T : List (List Int)} (h : tabVB p T = true) {t : Nat} (ht : t < T.length) : (T.getD t []).length = 21 ∧ valsB (T.getD t []) = true := by
  simp only [tabVB, Bool.and_eq_true, List.all_eq_true] at h
  have := h.2 T[t] (List.getElem_mem ht)
  simp only [rowVB, Bool.and_eq_true, decide_eq_true_eq] at this
  rw [List.getD_eq_getElem?_getD, List.getElem?_eq_getElem ht]
  exact this
theorem tabV_len {p : Pr} {T : List (List Int)} (h : tabVB p T = true) : (T.length : Int) = p.turns + 1 := by
  simp only [tabVB, Bool.and_eq_true, decide_eq_true_eq] at h; exact h.1
theorem vals_in {l : List Int} (h : valsB l = true) : rowIn 30000000000000000 l := fun k _ => by
  have := vals_at h k; omega
theorem TabA.xt2 {m M : Mem} {v : Value} {T : List (List Int)} (h : TabA m v T) (hx : Ext m M) : TabA M v T := by
  obtain ⟨n0, rfl, _⟩ := hx
  exact h.ro.ext n0
theorem TabA.at_z {m : Mem} {v : Value} {T : List (List Int)} (h : TabA m v T) {z : Int} {k : Nat} (hz : z = k) (hk : k < T.length) : iadA 1 v (.int .i64 z) = some (pAt v k) := by
  subst hz; exact h.at_ k hk
theorem all_getD {l : List Int} {f : Int → Bool} (h : ∀ i, i < l.length → f (l.getD i 0) = true) : l.all f = true := by
  rw [List.all_eq_true]
  intro x hx
  obtain ⟨j, hj, rfl⟩ := List.getElem_of_mem hx
  have := h j hj
  rwa [List.getD_eq_getElem?_getD, List.getElem?_eq_getElem hj] at this
theorem all_noD {l : List Int} {f : Int → Bool} {i : Nat} (hi : i < l.length) (h : f (l.getD i 0) = false) : l.all f = false := by
  cases hr : l.all f with
  | false => rfl
  | true =>
    rw [List.all_eq_true] at hr
    rw [List.getD_eq_getElem?_getD, List.getElem?_eq_getElem hi] at h
    have := hr l[i] (List.getElem_mem hi)
    rw [show f l[i] = false from h] at this; cases this
theorem allT_getD {T : List (List Int)} {f : List Int → Bool} (h : ∀ i, i < T.length → f (T.getD i []) = true) : T.all f = true := by
  rw [List.all_eq_true]
  intro x hx
  obtain ⟨j, hj, rfl⟩ := List.getElem_of_mem hx
  have := h j hj
  rwa [List.getD_eq_getElem?_getD, List.getElem?_eq_getElem hj] at this
theorem allT_noD {T : List (List Int)} {f : List Int → Bool} {i : Nat} (hi : i < T.length) (h : f (T.getD i []) = false) : T.all f = false := by
  cases hr : T.all f with
  | false => rfl
  | true =>
    rw [List.all_eq_true] at hr
    rw [List.getD_eq_getElem?_getD, List.getElem?_eq_getElem hi] at h
    have := hr T[i] (List.getElem_mem hi)
    rw [show f T[i] = false from h] at this; cases this
theorem slMax_rc (m : Mem) (v : Value) (l : List Int) (h : IntsA m v l) (hl : 0 < l.length) :
    RC Try.prog 90 [v] m fun r new => (∃ z : Int, r = .int .i64 z ∧ decide (z ≤ 0) = l.all fun x => decide (x ≤ 0)) ∧ new = [] := by
  refine rc_of_run mixed ok_slices_Max (by simp) (go_start _ _ _ ?_)
  have hr := h.ro
  have h1 : ¬ ((l.length : Int) < 1) := by omega
  have a0 : iadA 1 v (.int .i64 0) = some (pAt v 0) := hr.at_ 0 hl
  simp (config := {implicitDefEqProofs := false, maxDischargeDepth := 20}) (disch := first | omega | (simp only [lenE]; done) | (simp only [lenE]; omega) | rfl | (simp only [lenE, markR_len]; done) | (simp only [lenE, markR_len]; omega)) only [runE, mapE, listE, initT_5, initT_6, initT_7, initT_8, resV, oneV, binA, unA, reduceCtorEq, Nat.reduceEqDiff, Nat.reduceAdd, Nat.reduceLT, Nat.reduceLeDiff, Nat.reduceMul, Nat.reduceSub, ↓reduceIte, decide_true, decide_false, Bool.true_eq_false, Bool.false_eq_true, Bool.not_true, Bool.not_false, if_true, if_false, and_true, true_and, memE, celE, w64, Nat.zero_add, Nat.add_zero, Nat.mul_one, putL, and_self, ldn, c_slices_Max, r_slices_Max, hr.len, h1, a0, hr.ld 0 hl]
  refine loop_inv mixed (fun s => ∃ (k : Nat) (z : Int), k < l.length ∧ (∃ i : Nat, i ≤ k ∧ z = l.getD i 0) ∧ (∀ i : Nat, i ≤ k → l.getD i 0 ≤ z) ∧ s.t 0 = v ∧ s.t 3 = .int .i64 z ∧ s.t 4 = .int .i64 ((k + 1 : Nat) : Int) ∧ s.m = roM m) (fun s => l.length + 1 - (intOf (s.t 4)).toNat) ⟨0, l.getD 0 0, hl, ⟨0, by omega, rfl⟩, fun i hi => by rw [show i = 0 by omega]; exact Int.le_refl _, rfl, rfl, rfl, rfl⟩ ?_
  rintro s ⟨k, z, hk, ⟨i0, hi0, hz⟩, hmin, t0, t3, t4, tm⟩
  have bd := hr.bd
  by_cases hlt : k + 1 < l.length
  · have hlt' : ((k + 1 : Nat) : Int) < l.length := by omega
    simp (config := {implicitDefEqProofs := false, maxDischargeDepth := 20}) (disch := first | omega | (simp only [lenE]; done) | (simp only [lenE]; omega) | rfl | (simp only [lenE, markR_len]; done) | (simp only [lenE, markR_len]; omega)) only [runE, mapE, listE, initT_5, initT_6, initT_7, initT_8, resV, oneV, binA, unA, reduceCtorEq, Nat.reduceEqDiff, Nat.reduceAdd, Nat.reduceLT, Nat.reduceLeDiff, Nat.reduceMul, Nat.reduceSub, ↓reduceIte, decide_true, decide_false, Bool.true_eq_false, Bool.false_eq_true, Bool.not_true, Bool.not_false, if_true, if_false, and_true, true_and, memE, celE, w64, Nat.zero_add, Nat.add_zero, Nat.mul_one, putL, and_self, ldn, t0, t3, t4, tm, hr.len, hr.at_ (k + 1) hlt, hr.ld (k + 1) hlt, hlt']
    refine ⟨⟨k + 1, max z (l.getD (k + 1) 0), hlt, ?_, fun i hi => ?_, rfl, by congr 1⟩, by simp [intOf]; omega⟩
    · by_cases e : l.getD (k + 1) 0 ≤ z
      · exact ⟨i0, by omega, by rw [← hz]; omega⟩
      · exact ⟨k + 1, by omega, by omega⟩
    · by_cases e : i = k + 1
      · rw [e]; omega
      · have := hmin i (by omega); omega
  · have hlt' : ¬ (((k + 1 : Nat) : Int) < l.length) := by omega
    simp (config := {implicitDefEqProofs := false, maxDischargeDepth := 20}) (disch := first | omega | (simp only [lenE]; done) | (simp only [lenE]; omega) | rfl | (simp only [lenE, markR_len]; done) | (simp only [lenE, markR_len]; omega)) only [runE, mapE, listE, initT_5, initT_6, initT_7, initT_8, resV, oneV, binA, unA, reduceCtorEq, Nat.reduceEqDiff, Nat.reduceAdd, Nat.reduceLT, Nat.reduceLeDiff, Nat.reduceMul, Nat.reduceSub, ↓reduceIte, decide_true, decide_false, Bool.true_eq_false, Bool.false_eq_true, Bool.not_true, Bool.not_false, if_true, if_false, and_true, true_and, memE, celE, w64, Nat.zero_add, Nat.add_zero, Nat.mul_one, putL, and_self, ldn, t0, t3, t4, tm, hr.len, hlt']
    refine newQ_nil ⟨⟨z, rfl, ?_⟩, rfl⟩
    by_cases e : z ≤ 0
    · rw [all_getD (l := l) (f := fun x => decide (x ≤ 0)) fun i hi => decide_eq_true (by have := hmin i (by omega); omega)]
      exact decide_eq_true e
    · rw [all_noD (l := l) (f := fun x => decide (x ≤ 0)) (i := i0) (by omega) (decide_eq_false (by omega))]
      exact decide_eq_false e
theorem rowTest_rc (m : Mem) (v : Value) (l : List Int) (h : IntsA m v l) : RC Try.prog 88 [v] m fun r new => r = .bool (!rowVB l) ∧ new = [] := by
  refine rc_of_run mixed ok_impl_isValueTable_1 (by simp) (go_start _ _ _ ?_)
  have hr := h.ro
  unfold rowVB
  by_cases h21 : l.length = 21
  · have h21' : ((l.length : Int) != 21) = false := by rw [h21]; rfl
    simp (config := {implicitDefEqProofs := false, maxDischargeDepth := 20}) (disch := first | omega | (simp only [lenE]; done) | (simp only [lenE]; omega) | rfl | (simp only [lenE, markR_len]; done) | (simp only [lenE, markR_len]; omega)) only [runE, mapE, listE, initT_5, initT_6, initT_7, initT_8, resV, oneV, binA, unA, reduceCtorEq, Nat.reduceEqDiff, Nat.reduceAdd, Nat.reduceLT, Nat.reduceLeDiff, Nat.reduceMul, Nat.reduceSub, ↓reduceIte, decide_true, decide_false, Bool.true_eq_false, Bool.false_eq_true, Bool.not_true, Bool.not_false, if_true, if_false, and_true, true_and, memE, celE, w64, Nat.zero_add, Nat.add_zero, Nat.mul_one, putL, and_self, ldn, c_impl_isValueTable_1, r_impl_isValueTable_1, hr.len, h21']
    refine callH_rc (areValues_rc _ v l hr) ?_
    rintro r new ⟨rfl, rfl⟩
    simp (config := {implicitDefEqProofs := false, maxDischargeDepth := 20}) (disch := first | omega | (simp only [lenE]; done) | (simp only [lenE]; omega) | rfl | (simp only [lenE, markR_len]; done) | (simp only [lenE, markR_len]; omega)) only [runE, mapE, listE, initT_5, initT_6, initT_7, initT_8, resV, oneV, binA, unA, reduceCtorEq, Nat.reduceEqDiff, Nat.reduceAdd, Nat.reduceLT, Nat.reduceLeDiff, Nat.reduceMul, Nat.reduceSub, ↓reduceIte, decide_true, decide_false, Bool.true_eq_false, Bool.false_eq_true, Bool.not_true, Bool.not_false, if_true, if_false, and_true, true_and, memE, celE, w64, Nat.zero_add, Nat.add_zero, Nat.mul_one, putL, and_self, ldn]
    exact newQ_nil ⟨by simp [h21], rfl⟩
  · have h21' : ((l.length : Int) != 21) = true := by rw [bne_iff_ne]; omega
    simp (config := {implicitDefEqProofs := false, maxDischargeDepth := 20}) (disch := first | omega | (simp only [lenE]; done) | (simp only [lenE]; omega) | rfl | (simp only [lenE, markR_len]; done) | (simp only [lenE, markR_len]; omega)) only [runE, mapE, listE, initT_5, initT_6, initT_7, initT_8, resV, oneV, binA, unA, reduceCtorEq, Nat.reduceEqDiff, Nat.reduceAdd, Nat.reduceLT, Nat.reduceLeDiff, Nat.reduceMul, Nat.reduceSub, ↓reduceIte, decide_true, decide_false, Bool.true_eq_false, Bool.false_eq_true, Bool.not_true, Bool.not_false, if_true, if_false, and_true, true_and, memE, celE, w64, Nat.zero_add, Nat.add_zero, Nat.mul_one, putL, and_self, ldn, c_impl_isValueTable_1, r_impl_isValueTable_1, hr.len, h21']
    exact newQ_nil ⟨by simp [h21], rfl⟩
theorem indexFuncT_rc (m : Mem) (v : Value) (T : List (List Int)) (h : TabA m v T) :
    RC Try.prog 101 [v, .func (.func 88) #[] #[]] m fun r new => (∃ z : Int, r = .int .i64 z ∧ decide (0 ≤ z) = !T.all rowVB) ∧ new = [] := by
  refine rc_of_run mixed ok_slices_IndexFunc_sint (by simp) (go_start _ _ _ ?_)
  have hr := h.ro
  have hb := hr.bd
  simp (config := {implicitDefEqProofs := false, maxDischargeDepth := 20}) (disch := first | omega | (simp only [lenE]; done) | (simp only [lenE]; omega) | rfl | (simp only [lenE, markR_len]; done) | (simp only [lenE, markR_len]; omega)) only [runE, mapE, listE, initT_5, initT_6, initT_7, initT_8, resV, oneV, binA, unA, reduceCtorEq, Nat.reduceEqDiff, Nat.reduceAdd, Nat.reduceLT, Nat.reduceLeDiff, Nat.reduceMul, Nat.reduceSub, ↓reduceIte, decide_true, decide_false, Bool.true_eq_false, Bool.false_eq_true, Bool.not_true, Bool.not_false, if_true, if_false, and_true, true_and, memE, celE, w64, Nat.zero_add, Nat.add_zero, Nat.mul_one, putL, and_self, ldn, c_slices_IndexFunc_sint, r_slices_IndexFunc_sint, hr.len]
  refine loop_inv mixed (fun s => ∃ (k : Nat), k ≤ T.length ∧ s.m = roM m ∧ s.t 0 = v ∧ s.t 1 = .func (.func 88) #[] #[] ∧ s.t 7 = .int .i64 T.length ∧ s.t 8 = .int .i64 k ∧ ∀ j, j < k → rowVB (T.getD j []) = true) (fun s => T.length - (intOf (s.t 8)).toNat)
    ⟨0, by omega, rfl, rfl, rfl, rfl, rfl, fun j hj => absurd hj (by omega)⟩ ?_
  rintro s ⟨k, hk, tm, t0, t1, t7, t8, hno⟩
  by_cases hlt : k < T.length
  · have hlt' : (k : Int) < T.length := by omega
    obtain ⟨y, hy, hi⟩ := hr.ld k hlt
    simp (config := {implicitDefEqProofs := false, maxDischargeDepth := 20}) (disch := first | omega | (simp only [lenE]; done) | (simp only [lenE]; omega) | rfl | (simp only [lenE, markR_len]; done) | (simp only [lenE, markR_len]; omega)) only [runE, mapE, listE, initT_5, initT_6, initT_7, initT_8, resV, oneV, binA, unA, reduceCtorEq, Nat.reduceEqDiff, Nat.reduceAdd, Nat.reduceLT, Nat.reduceLeDiff, Nat.reduceMul, Nat.reduceSub, ↓reduceIte, decide_true, decide_false, Bool.true_eq_false, Bool.false_eq_true, Bool.not_true, Bool.not_false, if_true, if_false, and_true, true_and, memE, celE, w64, Nat.zero_add, Nat.add_zero, Nat.mul_one, putL, and_self, ldn, tm, t0, t1, t7, t8, hlt', hr.at_ k hlt, hy]
    refine callH_rc (rowTest_rc _ y _ hi) ?_
    rintro r new ⟨rfl, rfl⟩
    rw [List.append_nil]
    cases hb2 : rowVB (T.getD k []) with
    | false =>
      simp (config := {implicitDefEqProofs := false, maxDischargeDepth := 20}) (disch := first | omega | (simp only [lenE]; done) | (simp only [lenE]; omega) | rfl | (simp only [lenE, markR_len]; done) | (simp only [lenE, markR_len]; omega)) only [runE, mapE, listE, initT_5, initT_6, initT_7, initT_8, resV, oneV, binA, unA, reduceCtorEq, Nat.reduceEqDiff, Nat.reduceAdd, Nat.reduceLT, Nat.reduceLeDiff, Nat.reduceMul, Nat.reduceSub, ↓reduceIte, decide_true, decide_false, Bool.true_eq_false, Bool.false_eq_true, Bool.not_true, Bool.not_false, if_true, if_false, and_true, true_and, memE, celE, w64, Nat.zero_add, Nat.add_zero, Nat.mul_one, putL, and_self, ldn, tm, t0, t1, t7, t8]
      exact newQ_nil ⟨⟨_, rfl, by rw [allT_noD hlt hb2]; simp⟩, rfl⟩
    | true =>
      simp (config := {implicitDefEqProofs := false, maxDischargeDepth := 20}) (disch := first | omega | (simp only [lenE]; done) | (simp only [lenE]; omega) | rfl | (simp only [lenE, markR_len]; done) | (simp only [lenE, markR_len]; omega)) only [runE, mapE, listE, initT_5, initT_6, initT_7, initT_8, resV, oneV, binA, unA, reduceCtorEq, Nat.reduceEqDiff, Nat.reduceAdd, Nat.reduceLT, Nat.reduceLeDiff, Nat.reduceMul, Nat.reduceSub, ↓reduceIte, decide_true, decide_false, Bool.true_eq_false, Bool.false_eq_true, Bool.not_true, Bool.not_false, if_true, if_false, and_true, true_and, memE, celE, w64, Nat.zero_add, Nat.add_zero, Nat.mul_one, putL, and_self, ldn, tm, t0, t1, t7, t8]
      refine ⟨⟨k + 1, by omega, by simp, fun j hj => ?_⟩, by simp [intOf]; omega⟩
      by_cases e : j = k
      · rw [e]; exact hb2
      · exact hno j (by omega)
  · have hlt' : ¬ ((k : Int) < T.length) := by omega
    simp (config := {implicitDefEqProofs := false, maxDischargeDepth := 20}) (disch := first | omega | (simp only [lenE]; done) | (simp only [lenE]; omega) | rfl | (simp only [lenE, markR_len]; done) | (simp only [lenE, markR_len]; omega)) only [runE, mapE, listE, initT_5, initT_6, initT_7, initT_8, resV, oneV, binA, unA, reduceCtorEq, Nat.reduceEqDiff, Nat.reduceAdd, Nat.reduceLT, Nat.reduceLeDiff, Nat.reduceMul, Nat.reduceSub, ↓reduceIte, decide_true, decide_false, Bool.true_eq_false, Bool.false_eq_true, Bool.not_true, Bool.not_false, if_true, if_false, and_true, true_and, memE, celE, w64, Nat.zero_add, Nat.add_zero, Nat.mul_one, putL, and_self, ldn, tm, t0, t1, t7, t8, hlt']
    exact newQ_nil ⟨⟨_, rfl, by rw [allT_getD fun j hj => hno j (by omega)]; rfl⟩, rfl⟩
theorem isValueTable_rc (m : Mem) (v vt : Value) (p : Pr) (T : List (List Int)) (h : ProcA m v p) (hT : TabA m vt T) (hG : GoodP p) : RC Try.prog 55 [v, vt] m (AnsV (.bool (tabVB p T && lastB p T))) := by
  refine rc_of_run mixed ok_impl_isValueTable (by simp) (go_start _ _ _ ?_)
  obtain ⟨u, rfl, hu⟩ := h.ro
  have htu := hG.turns
  have hTr := hT.ro
  by_cases hl : (T.length : Int) = p.turns + 1
  · simp (config := {implicitDefEqProofs := false, maxDischargeDepth := 20}) (disch := first | omega | (simp only [lenE]; done) | (simp only [lenE]; omega) | rfl | (simp only [lenE, markR_len]; done) | (simp only [lenE, markR_len]; omega)) only [runE, mapE, listE, initT_5, initT_6, initT_7, initT_8, resV, oneV, binA, unA, reduceCtorEq, Nat.reduceEqDiff, Nat.reduceAdd, Nat.reduceLT, Nat.reduceLeDiff, Nat.reduceMul, Nat.reduceSub, ↓reduceIte, decide_true, decide_false, Bool.true_eq_false, Bool.false_eq_true, Bool.not_true, Bool.not_false, if_true, if_false, and_true, true_and, memE, celE, w64, Nat.zero_add, Nat.add_zero, Nat.mul_one, putL, and_self, ldn, c_impl_isValueTable, r_impl_isValueTable, hTr.len, hl, beq_self_eq_true]
    refine callH_rc (?_ : RC Try.prog 89 [vt, .func (.func 88) #[] #[]] (roM m ++ [⟨.own, 26, [.int .i64 p.turns, u, .int .i64 p.setup, .int .i64 p.unit, .int .i64 p.hold, .int .i64 p.back]⟩]) fun r new => r = .bool (!T.all rowVB) ∧ new = []) ?_
    · refine rc_of_run mixed ok_slices_ContainsFunc_sint (by simp) (go_start _ _ _ ?_)
      simp (config := {implicitDefEqProofs := false, maxDischargeDepth := 20}) (disch := first | omega | (simp only [lenE]; done) | (simp only [lenE]; omega) | rfl | (simp only [lenE, markR_len]; done) | (simp only [lenE, markR_len]; omega)) only [runE, mapE, listE, initT_5, initT_6, initT_7, initT_8, resV, oneV, binA, unA, reduceCtorEq, Nat.reduceEqDiff, Nat.reduceAdd, Nat.reduceLT, Nat.reduceLeDiff, Nat.reduceMul, Nat.reduceSub, ↓reduceIte, decide_true, decide_false, Bool.true_eq_false, Bool.false_eq_true, Bool.not_true, Bool.not_false, if_true, if_false, and_true, true_and, memE, celE, w64, Nat.zero_add, Nat.add_zero, Nat.mul_one, putL, and_self, ldn, c_slices_ContainsFunc_sint, r_slices_ContainsFunc_sint]
      refine callH_rc (indexFuncT_rc _ vt T ((hTr.ext _).ro)) ?_
      rintro r new ⟨⟨z, rfl, hz⟩, rfl⟩
      simp (config := {implicitDefEqProofs := false, maxDischargeDepth := 20}) (disch := first | omega | (simp only [lenE]; done) | (simp only [lenE]; omega) | rfl | (simp only [lenE, markR_len]; done) | (simp only [lenE, markR_len]; omega)) only [runE, mapE, listE, initT_5, initT_6, initT_7, initT_8, resV, oneV, binA, unA, reduceCtorEq, Nat.reduceEqDiff, Nat.reduceAdd, Nat.reduceLT, Nat.reduceLeDiff, Nat.reduceMul, Nat.reduceSub, ↓reduceIte, decide_true, decide_false, Bool.true_eq_false, Bool.false_eq_true, Bool.not_true, Bool.not_false, if_true, if_false, and_true, true_and, memE, celE, w64, Nat.zero_add, Nat.add_zero, Nat.mul_one, putL, and_self, ldn, ge_iff_le]
      exact newQ_nil ⟨by rw [hz], rfl⟩
    rintro r new ⟨rfl, rfl⟩
    rw [List.append_nil]
    cases hall : T.all rowVB with
    | false =>
      simp (config := {implicitDefEqProofs := false, maxDischargeDepth := 20}) (disch := first | omega | (simp only [lenE]; done) | (simp only [lenE]; omega) | rfl | (simp only [lenE, markR_len]; done) | (simp only [lenE, markR_len]; omega)) only [runE, mapE, listE, initT_5, initT_6, initT_7, initT_8, resV, oneV, binA, unA, reduceCtorEq, Nat.reduceEqDiff, Nat.reduceAdd, Nat.reduceLT, Nat.reduceLeDiff, Nat.reduceMul, Nat.reduceSub, ↓reduceIte, decide_true, decide_false, Bool.true_eq_false, Bool.false_eq_true, Bool.not_true, Bool.not_false, if_true, if_false, and_true, true_and, memE, celE, w64, Nat.zero_add, Nat.add_zero, Nat.mul_one, putL, and_self, ldn]
      try simp only [List.append_assoc, List.cons_append, List.nil_append, List.append_nil]
      exact ⟨_, rfl, by (repeat (first | exact noRo_nil | assumption | apply noRo_own | apply noRo_dead | apply noRo_app)), by simp [tabVB, hall], by (repeat (first | exact noRo_nil | assumption | apply noRo_own | apply noRo_dead | apply noRo_app))⟩
    | true =>
      have hv : tabVB p T = true := by simp [tabVB, hall, hl]
      have hlen := tabV_row hv (t := p.turns.toNat) (by omega)
      have hT1 := hTr.ext [⟨.own, 26, [.int .i64 p.turns, u, .int .i64 p.setup, .int .i64 p.unit, .int .i64 p.hold, .int .i64 p.back]⟩]
      have a1 := hT1.at_z (z := p.turns) (k := p.turns.toNat) (by omega) (by omega)
      obtain ⟨y, a2, a3⟩ := hT1.ld p.turns.toNat (by omega)
      simp (config := {implicitDefEqProofs := false, maxDischargeDepth := 20}) (disch := first | omega | (simp only [lenE]; done) | (simp only [lenE]; omega) | rfl | (simp only [lenE, markR_len]; done) | (simp only [lenE, markR_len]; omega)) only [runE, mapE, listE, initT_5, initT_6, initT_7, initT_8, resV, oneV, binA, unA, reduceCtorEq, Nat.reduceEqDiff, Nat.reduceAdd, Nat.reduceLT, Nat.reduceLeDiff, Nat.reduceMul, Nat.reduceSub, ↓reduceIte, decide_true, decide_false, Bool.true_eq_false, Bool.false_eq_true, Bool.not_true, Bool.not_false, if_true, if_false, and_true, true_and, memE, celE, w64, Nat.zero_add, Nat.add_zero, Nat.mul_one, putL, and_self, ldn, a1, a2]
      refine callH_rc (slMax_rc _ y _ a3 (by omega)) ?_
      rintro r new ⟨⟨z, rfl, hz⟩, rfl⟩
      simp (config := {implicitDefEqProofs := false, maxDischargeDepth := 20}) (disch := first | omega | (simp only [lenE]; done) | (simp only [lenE]; omega) | rfl | (simp only [lenE, markR_len]; done) | (simp only [lenE, markR_len]; omega)) only [runE, mapE, listE, initT_5, initT_6, initT_7, initT_8, resV, oneV, binA, unA, reduceCtorEq, Nat.reduceEqDiff, Nat.reduceAdd, Nat.reduceLT, Nat.reduceLeDiff, Nat.reduceMul, Nat.reduceSub, ↓reduceIte, decide_true, decide_false, Bool.true_eq_false, Bool.false_eq_true, Bool.not_true, Bool.not_false, if_true, if_false, and_true, true_and, memE, celE, w64, Nat.zero_add, Nat.add_zero, Nat.mul_one, putL, and_self, ldn]
      try simp only [List.append_assoc, List.cons_append, List.nil_append, List.append_nil]
      refine ⟨_, rfl, by (repeat (first | exact noRo_nil | assumption | apply noRo_own | apply noRo_dead | apply noRo_app)), ?_, by (repeat (first | exact noRo_nil | assumption | apply noRo_own | apply noRo_dead | apply noRo_app))⟩
      rw [hz, hv]; rfl
  · have hl' : ((T.length : Int) == p.turns + 1) = false := by simp [hl]
    simp (config := {implicitDefEqProofs := false, maxDischargeDepth := 20}) (disch := first | omega | (simp only [lenE]; done) | (simp only [lenE]; omega) | rfl | (simp only [lenE, markR_len]; done) | (simp only [lenE, markR_len]; omega)) only [runE, mapE, listE, initT_5, initT_6, initT_7, initT_8, resV, oneV, binA, unA, reduceCtorEq, Nat.reduceEqDiff, Nat.reduceAdd, Nat.reduceLT, Nat.reduceLeDiff, Nat.reduceMul, Nat.reduceSub, ↓reduceIte, decide_true, decide_false, Bool.true_eq_false, Bool.false_eq_true, Bool.not_true, Bool.not_false, if_true, if_false, and_true, true_and, memE, celE, w64, Nat.zero_add, Nat.add_zero, Nat.mul_one, putL, and_self, ldn, c_impl_isValueTable, r_impl_isValueTable, hTr.len, hl']
    try simp only [List.append_assoc, List.cons_append, List.nil_append, List.append_nil]
    exact ⟨_, rfl, by (repeat (first | exact noRo_nil | assumption | apply noRo_own | apply noRo_dead | apply noRo_app)), by simp [tabVB, hl], by (repeat (first | exact noRo_nil | assumption | apply noRo_own | apply noRo_dead | apply noRo_app))⟩
theorem underB_no {p : Pr} {T : List (List Int)} {t i : Nat} (hi : i < 21) (h : underI p T t i = false) : underB p T t = false := by
  cases hr : underB p T t with
  | false => rfl
  | true =>
    simp only [underB, List.all_eq_true, List.mem_range] at hr
    rw [hr i hi] at h; cases h
theorem underB_yes {p : Pr} {T : List (List Int)} {t : Nat} (h : ∀ i, i < 21 → underI p T t i = true) : underB p T t = true := by
  simp only [underB, List.all_eq_true, List.mem_range]; exact h
end Go.Proofs.Ytbchcbhleldhiaa.Ab
end
section
namespace Go.Proofs.Ytbchcbhleldhiaa.Ab
open Go Go.RowKit
set_option linter.unusedVariables false
theorem wsum_bd {p : Pr} (hG : GoodP p) {f : Nat → Int} {M : Int} : ∀ k : Nat, k ≤ p.w.length → (∀ d, d < k → 0 ≤ f d ∧ f d ≤ M) → 0 ≤ wsum p.w f k ∧ wsum p.w f k ≤ sumTo p.w k * M
  | 0, _, _ => by simp [wsum, sumTo]
  | k + 1, hk, h => by
    have h1 := wsum_bd hG k (by omega) fun d hd => h d (by omega)
    have hw := (hG.at_ k).1
    have hf := h k (Nat.lt_succ_self k)
    have a := Int.mul_nonneg hw hf.1
    have b := Int.mul_le_mul_of_nonneg_left hf.2 hw
    rw [wsum_s, sumTo_sD (by omega), Int.add_mul]
    omega
theorem rows_few {p : Pr} (hG : GoodP p) : ∀ k : Nat, ∀ i, i < 21 → 0 ≤ (p.rowsN p.bestC k).getD i 0 ∧ (p.rowsN p.bestC k).getD i 0 ≤ 400 * k * p.pow k
  | 0, i, hi => by
    have : (p.rowsN p.bestC 0).getD i 0 = 0 := by
      show (List.replicate 21 (0 : Int)).getD i 0 = 0
      rw [List.getD_eq_getElem?_getD, List.getElem?_replicate, if_pos hi]; rfl
    rw [this]; simp
  | k + 1, i, hi => by
    have ih := rows_few hG k
    rw [Pr.rowsN_at p _ k hi]
    obtain ⟨y, hy⟩ : ∃ y, y = p.bestC k (p.rowsN p.bestC k) ((i : Int) - 10) := ⟨_, rfl⟩
    have hm : p.may y := by rw [hy]; exact (Pr.up_may hG _ ⟨by omega, by omega⟩ k).1
    rw [← hy]
    have hpw := hG.pow k
    have hpw1 := hG.pow (k + 1)
    have ho := hG.ord (x := (i : Int) - 10) (y := y) (by omega) hm.2
    have hA := wsum_bd hG (f := p.part (p.rowsN p.bestC k) y k) (M := 90 * p.pow k + 400 * k * p.pow k) p.w.length (Nat.le_refl _) fun d hd => by
      have hlv := hm.lv hd
      have hk1 := hG.kept hlv
      have hn := ih (y - d + 10).toNat (by omega)
      have a := Int.mul_nonneg hk1.1 (show 0 ≤ p.pow k by omega)
      have b := Int.mul_le_mul_of_nonneg_right hk1.2 (show 0 ≤ p.pow k by omega)
      unfold Pr.part
      omega
    have e : sumTo p.w p.w.length * (90 * p.pow k + 400 * k * p.pow k) = 90 * p.pow (k + 1) + 400 * k * p.pow (k + 1) := by
      show p.whole * (90 * p.pow k + 400 * k * p.pow k) = 90 * (p.pow k * p.whole) + 400 * k * (p.pow k * p.whole)
      grind
    rw [e] at hA
    have a := Int.mul_nonneg ho.1 (show 0 ≤ p.pow (k + 1) by omega)
    have b := Int.mul_le_mul_of_nonneg_right ho.2 (show 0 ≤ p.pow (k + 1) by omega)
    have e2 : 400 * ((k + 1 : Nat) : Int) * p.pow (k + 1) = 400 * k * p.pow (k + 1) + 400 * p.pow (k + 1) := by
      rw [Int.natCast_add]
      grind
    rw [e2]
    unfold Pr.move Pr.after
    omega
theorem rows_value {p : Pr} (hG : GoodP p) {k : Nat} (hk : k ≤ 5) {i : Nat} (hi : i < 21) : 0 ≤ (p.rowsN p.bestC k).getD i 0 ∧ (p.rowsN p.bestC k).getD i 0 ≤ 6400000000 := by
  have h := rows_few hG k i hi
  have hp := hG.pow5 hk
  refine ⟨h.1, Int.le_trans h.2 ?_⟩
  have a := Int.mul_le_mul (show 400 * (k : Int) ≤ 2000 by omega) hp.2 (by omega) (by omega)
  exact Int.le_trans a (by decide)
theorem rows_vals {p : Pr} (hG : GoodP p) {k : Nat} (hk : k ≤ 5) : valsB (p.rowsN p.bestC k) = true := by
  refine all_getD fun i hi => ?_
  rw [Pr.rowsN_len] at hi
  have := rows_value hG hk hi
  simp only [valB, Bool.and_eq_true, decide_eq_true_eq]
  omega
theorem rows_convB {p : Pr} (hG : GoodP p) {k : Nat} (hk : k ≤ 5) : convOk (p.rowsN p.bestC k) (p.setup * p.pow k) = true ∧ convB (p.rowsN p.bestC k) (p.setup * p.pow k) = true := by
  have hp := hG.pow5 hk
  have hs := hG.setup
  have hl := Pr.rowsN_len p p.bestC k
  have hC := Pr.rows_conv hG k
  constructor
  · have a := Int.mul_nonneg hs.1 (show 0 ≤ p.pow k by omega)
    have b := Int.mul_le_mul hs.2 hp.2 (by omega) (by omega)
    simp only [convOk, inZ, Bool.and_eq_true, decide_eq_true_eq]
    exact ⟨⟨by omega, rows_vals hG hk⟩, a, Int.le_trans b (by decide)⟩
  · obtain ⟨l, hle⟩ : ∃ l, l = p.rowsN p.bestC k := ⟨_, rfl⟩
    rw [← hle] at hl hC ⊢
    refine convB_yes fun a ha => convAt_yes fun v u h1 h2 h3 h4 => decide_eq_true ?_
    have h := hC ((a : Int) - 10) v u (by omega) (by omega) (by omega) (by omega)
    unfold fun21 at h
    rw [show ((a : Int) - 10 + 10).toNat = a by omega, show ((a : Int) - 10 - v + 10).toNat = a - v by omega, show ((a : Int) - 10 + u + 10).toNat = a + u by omega] at h
    exact h
theorem pair_free {p : Pr} (hG : GoodP p) (next : List Int) (n : Nat) (h0 : p.setup = 0) : (pairOf p next n).1 = (pairOf p next n).2 := by
  obtain ⟨s, S, e, hS, a1, a2, a3, a4⟩ := pair_is hG next n
  rw [e]
  rw [h0, Int.zero_mul, Int.zero_add] at a3
  by_cases c : s < S
  · have := hS.2.2.2 s a1 c
    simp only at this
    omega
  · show s = S
    omega
theorem tab_proof {p : Pr} (hG : GoodP p) : proofB p (p.tab p.bestC p.turns.toNat) = true := by
  have ht := hG.turns
  obtain ⟨N, hN⟩ : ∃ N, N = p.turns.toNat := ⟨_, rfl⟩
  unfold proofB tabVB lastB
  rw [← hN]
  simp only [Bool.and_eq_true, decide_eq_true_eq]
  refine ⟨⟨⟨by rw [Pr.tab_len]; omega, ?_⟩, ?_⟩, ?_⟩
  · rw [List.all_eq_true]
    intro l hl
    obtain ⟨t, hti, rfl⟩ := List.mem_map.1 hl
    have := List.mem_range.1 hti
    simp only [rowVB, Bool.and_eq_true, decide_eq_true_eq]
    exact ⟨Pr.rowsN_len _ _ _, rows_vals hG (by omega)⟩
  · rw [Pr.tab_at p _ (Nat.le_refl N), Nat.sub_self]
    show (List.replicate 21 (0 : Int)).all (fun x => decide (x ≤ 0)) = true
    decide
  · rw [List.all_eq_true]
    intro t hti
    have htN := List.mem_range.1 hti
    refine underB_yes fun i hi => ?_
    unfold underI
    rw [← hN, Pr.tab_at p _ (by omega), Pr.tab_at p _ (by omega), show N - t = (N - 1 - t) + 1 by omega, Pr.rowsN_at p _ _ hi, show N - (t + 1) = N - 1 - t by omega]
    exact decide_eq_true (Int.le_refl _)
end Go.Proofs.Ytbchcbhleldhiaa.Ab
end
section
namespace Go.Proofs.Ytbchcbhleldhiaa.Ab
open Go Go.RowKit
set_option linter.unusedVariables false
theorem levels_pol {p : Pr} (hG : GoodP p) : p.polB (levelsL p p.turns.toNat) = true := by
  have ht := hG.turns
  have hf := hG.floor
  simp only [Pr.polB, Bool.and_eq_true, List.all_eq_true, decide_eq_true_eq]
  refine ⟨by rw [levelsL_len]; omega, fun q hq => ?_⟩
  obtain ⟨t, _, rfl⟩ := List.mem_map.1 hq
  obtain ⟨s, S, e, hS, a1, a2, -, -⟩ := pair_is hG (p.rowsN p.bestC (p.turns.toNat - 1 - t)) (p.turns.toNat - 1 - t)
  have h1 := hS.1
  have h2 := hS.2.1
  show p.pairB (pairOf p (p.rowsN p.bestC (p.turns.toNat - 1 - t)) (p.turns.toNat - 1 - t)) = true
  rw [e]
  simp only [Pr.pairB, levB, Bool.and_eq_true, decide_eq_true_eq]
  omega
theorem worth_best {p : Pr} (hg : p.good = true) : p.polB (levelsA p) = true ∧ worthA p (levelsA p) = p.rowsN p.bestC p.turns.toNat := by
  have hG := goodP_iff.1 hg
  have e : levelsA p = levelsL p p.turns.toNat := by unfold levelsA; rw [if_pos hg]
  rw [e]
  have hp := levels_pol hG
  refine ⟨hp, ?_⟩
  unfold worthA
  rw [hg, hp]
  exact best_rows hG _ (Nat.le_refl _)
theorem worth_len {p : Pr} {L : List (Int × Int)} (hg : p.good = true) (hp : p.polB L = true) : (worthA p L).length = 21 := by
  unfold worthA
  rw [hg, hp]
  exact Pr.rowsN_len _ _ _
theorem worth_least {p : Pr} {L : List (Int × Int)} (hg : p.good = true) (hp : p.polB L = true) {i : Nat} (hi : i < 21) : (p.rowsN p.bestC p.turns.toNat).getD i 0 ≤ (worthA p L).getD i 0 := by
  have hG := goodP_iff.1 hg
  have e : worthA p L = p.rowsN (p.polC L) p.turns.toNat := by unfold worthA; rw [hg, hp]; rfl
  rw [e]
  have hL : (L.length : Int) = p.turns := by simp only [Pr.polB, Bool.and_eq_true, decide_eq_true_eq] at hp; exact hp.1
  exact no_less hG (Pr.pol_fair hG hp) (fun k next x hk h1 h2 => (Pr.upOf_may (Pr.pol_at hp (k := p.turns.toNat - 1 - k) (by omega)) ⟨h1, h2⟩).2) _ (Nat.le_refl _) i hi
theorem turn_row {p : Pr} (hg : p.good = true) {t : Nat} (ht : t < p.turns.toNat) :
    (p.tab p.bestC p.turns.toNat).getD t [] = p.rowsN p.bestC (p.turns.toNat - t) ∧ convOk (p.rowsN p.bestC (p.turns.toNat - t)) (p.setup * p.pow (p.turns.toNat - t)) = true ∧ convB (p.rowsN p.bestC (p.turns.toNat - t)) (p.setup * p.pow (p.turns.toNat - t)) = true ∧
    0 ≤ p.setup * p.pow (p.turns.toNat - t) ∧ p.setup * p.pow (p.turns.toNat - t) ≤ 1000000000000 ∧ (p.pow (p.turns.toNat - t)).tdiv p.whole = p.pow (p.turns.toNat - (t + 1)) ∧
    (p.setup = 0 → ((levelsA p).getD t (0, 0)).1 = ((levelsA p).getD t (0, 0)).2) := by
  have hG := goodP_iff.1 hg
  have h5 := hG.turns
  have hw := hG.pos
  have hc := rows_convB hG (k := p.turns.toNat - t) (by omega)
  have hk := hc.1
  simp only [convOk, inZ, Bool.and_eq_true, decide_eq_true_eq] at hk
  refine ⟨Pr.tab_at p _ (by omega), hc.1, hc.2, hk.2.1, hk.2.2, ?_, fun h0 => ?_⟩
  · rw [show p.turns.toNat - t = (p.turns.toNat - (t + 1)) + 1 by omega, Pr.pow]
    exact Int.mul_tdiv_cancel _ (by omega)
  · have e : levelsA p = levelsL p p.turns.toNat := by unfold levelsA; rw [if_pos hg]
    rw [e, levelsL_at ht]
    exact pair_free hG _ _ h0
end Go.Proofs.Ytbchcbhleldhiaa.Ab
end
section
namespace Go.Proofs.Ytbchcbhleldhiaa.Ab
open Go Go.RowKit
set_option linter.unusedVariables false
set_option linter.unusedSimpArgs false
theorem bld_move2 (t x y : Int) : bldA [.int .i64 0, .int .i64 0, .int .i64 0] [(0, 1, .int .i64 t), (1, 1, .int .i64 x), (2, 1, .int .i64 y)] = some (moveV t x y) := rfl
theorem firstMove_rc (m : Mem) (v : Value) (p : Pr) (t : Int) (h : ProcA m v p) (hl : p.w.length ≤ 5) : RC Try.prog 91 [v, .int .i64 t] m (AnsV (moveV t (-10) p.floor)) := by
  refine rc_of_run mixed ok_impl_firstMove (by simp) (go_start _ _ _ ?_)
  obtain ⟨u, rfl, hu⟩ := h.ro
  simp (config := {implicitDefEqProofs := false, maxDischargeDepth := 20}) (disch := first | omega | (simp only [lenE]; done) | (simp only [lenE]; omega) | rfl | (simp only [lenE, markR_len]; done) | (simp only [lenE, markR_len]; omega)) only [runE, mapE, listE, initT_5, initT_6, initT_7, initT_8, resV, oneV, binA, unA, reduceCtorEq, Nat.reduceEqDiff, Nat.reduceAdd, Nat.reduceLT, Nat.reduceLeDiff, Nat.reduceMul, Nat.reduceSub, ↓reduceIte, decide_true, decide_false, Bool.true_eq_false, Bool.false_eq_true, Bool.not_true, Bool.not_false, if_true, if_false, and_true, true_and, memE, celE, w64, Nat.zero_add, Nat.add_zero, Nat.mul_one, putL, and_self, ldn, c_impl_firstMove, r_impl_firstMove]
  refine callH_rc (floorOf_rc _ _ p (ProcA.mk ((hu.ext _).ext _)) hl) ?_
  rintro r n1 ⟨rfl, nr1⟩
  simp (config := {implicitDefEqProofs := false, maxDischargeDepth := 20}) (disch := first | omega | (simp only [lenE]; done) | (simp only [lenE]; omega) | rfl | (simp only [lenE, markR_len]; done) | (simp only [lenE, markR_len]; omega)) only [runE, mapE, listE, initT_5, initT_6, initT_7, initT_8, resV, oneV, binA, unA, reduceCtorEq, Nat.reduceEqDiff, Nat.reduceAdd, Nat.reduceLT, Nat.reduceLeDiff, Nat.reduceMul, Nat.reduceSub, ↓reduceIte, decide_true, decide_false, Bool.true_eq_false, Bool.false_eq_true, Bool.not_true, Bool.not_false, if_true, if_false, and_true, true_and, memE, celE, w64, Nat.zero_add, Nat.add_zero, Nat.mul_one, putL, and_self, ldn, bld_move2]
  try simp only [List.append_assoc, List.cons_append, List.nil_append, List.append_nil]
  exact ⟨_, rfl, by (repeat (first | exact noRo_nil | assumption | apply noRo_own | apply noRo_dead | apply noRo_app)), rfl, by (repeat (first | exact noRo_nil | assumption | apply noRo_own | apply noRo_dead | apply noRo_app))⟩
theorem aeq3 (a b c x y z : Int) : aeqA false 3 (.agg #[.int .i64 a, .int .i64 b, .int .i64 c]) (.agg #[.int .i64 x, .int .i64 y, .int .i64 z]) = some (.bool ((a == x) && ((b == y) && ((c == z) && true)))) := rfl
theorem next_turn {N t f a : Nat} {fl : Int} (ht : t < N) (h : -10 ≤ fl) (hf : (N - t) * 462 + a < f + 1 + 441) : (N - (t + 1)) * 462 + ((10 : Int) - -10).toNat * 21 + (10 - fl).toNat < f + 441 := by
  obtain ⟨b, hb⟩ : ∃ b, b = f + 441 := ⟨_, rfl⟩
  have hf' : (N - t) * 462 + a < b + 1 := by omega
  rw [← hb]
  have e1 : ((10 : Int) - -10).toNat * 21 = 420 := rfl
  rw [e1]
  have e2 : (10 - fl).toNat ≤ 20 := by omega
  obtain ⟨d, hd⟩ : ∃ d, d = N - (t + 1) := ⟨_, rfl⟩
  rw [show N - t = d + 1 from by omega, Nat.succ_mul] at hf'
  rw [← hd]
  generalize d * 462 = z at hf' ⊢
  generalize (10 - fl).toNat = y at e2 ⊢
  clear hf hb e1 h ht
  omega
def scC : ACode := match c_impl_noMoveCostsLess with
  | .seq _ (.scope c) => c
  | _ => .skip
def scY : ACode := match scC with
  | .seq _ (.seq _ y) => y
  | _ => .skip
def scR : ACode := .seq .skip scY
theorem sc_find : findA scC 0 = some scR := rfl
theorem lab_rest {k : Kont} {s : St} (h : goC Try.prog 61 scR k s) : goC Try.prog 61 (.label 0) (.seq scY k) s := by
  rw [scR, goC_seq, goC_skip] at h
  rw [goC_label]
  exact h
theorem noMove_rc (m : Mem) (v vt : Value) (p : Pr) (T : List (List Int)) (h : ProcA m v p) (hT : TabA m vt T) (hG : GoodP p) (hv : tabVB p T = true) :
    RC Try.prog 56 [v, vt] m (AnsV (.bool ((List.range p.turns.toNat).all (underB p T)))) := by
  refine rc_of_run mixed ok_impl_noMoveCostsLess (by simp) (go_start _ _ _ ?_)
  obtain ⟨u, rfl, hu⟩ := h.ro
  have htu := hG.turns
  have hlen := hG.len
  have hfl := hG.floor
  have hTl := tabV_len hv
  obtain ⟨N, hN⟩ : ∃ N, N = p.turns.toNat := ⟨_, rfl⟩
  have hNt : p.turns = (N : Int) := by omega
  rw [← hN]
  obtain ⟨Q, hQ⟩ : ∃ Q, Q = bodyQ r_impl_noMoveCostsLess (newQ m (AnsV (.bool ((List.range N).all (underB p T))))) := ⟨_, rfl⟩
  have fin : ∀ (f t : Nat) (x y : Int) (s : St) (M : Mem) (id5 id6 : Nat), s.m = M → Ext m M → OwnB M id5 60 [.int .i64 t, .int .i64 x, .int .i64 y] → OwnB M id6 60 [.int .i64 N, .int .i64 (-10), .int .i64 p.floor] →
      s.t 5 = .pointer (some ⟨id5, 0, none⟩) → s.t 6 = .pointer (some ⟨id6, 0, none⟩) → t = N → (x = -10 ∧ y = p.floor) → (∀ j, j < t → underB p T j = true) → goC Try.prog 61 scR (.scope f scC (.done Q)) s := by
    intro f t x y s M id5 id6 tm hX h5 h6 t5 t6 ht hxy hall
    obtain ⟨rfl, rfl⟩ := hxy
    subst ht
    have hall' : (List.range t).all (underB p T) = true := by
      rw [List.all_eq_true]
      intro j hj
      exact hall j (List.mem_range.1 hj)
    obtain ⟨KK, hKK⟩ : ∃ KK, KK = Kont.scope f scC (.done Q) := ⟨_, rfl⟩
    rw [← hKK]
    simp only [scR, scY, scC, c_impl_noMoveCostsLess]
    simp (config := {implicitDefEqProofs := false, maxDischargeDepth := 20}) (disch := first | omega | (simp only [lenE]; done) | (simp only [lenE]; omega) | rfl | (simp only [lenE, markR_len]; done) | (simp only [lenE, markR_len]; omega)) only [runE, listE, initT_5, initT_6, initT_7, initT_8, resV, oneV, binA, unA, reduceCtorEq, Nat.reduceEqDiff, Nat.reduceAdd, Nat.reduceLT, Nat.reduceLeDiff, Nat.reduceMul, Nat.reduceSub, ↓reduceIte, decide_true, decide_false, Bool.true_eq_false, Bool.false_eq_true, Bool.not_true, Bool.not_false, if_true, if_false, and_true, true_and, memE, celE, w64, Nat.zero_add, Nat.add_zero, Nat.mul_one, putL, and_self, goC_both, row_aeq, ldn, tm, t5, t6, h5.rd, h6.rd, aeq3, beq_self_eq_true, Bool.true_and, Bool.and_true]
    rw [hKK, hQ]
    simp (config := {implicitDefEqProofs := false, maxDischargeDepth := 20}) (disch := first | omega | (simp only [lenE]; done) | (simp only [lenE]; omega) | rfl | (simp only [lenE, markR_len]; done) | (simp only [lenE, markR_len]; omega)) only [runE, listE, initT_5, initT_6, initT_7, initT_8, resV, oneV, binA, unA, reduceCtorEq, Nat.reduceEqDiff, Nat.reduceAdd, Nat.reduceLT, Nat.reduceLeDiff, Nat.reduceMul, Nat.reduceSub, ↓reduceIte, decide_true, decide_false, Bool.true_eq_false, Bool.false_eq_true, Bool.not_true, Bool.not_false, if_true, if_false, and_true, true_and, memE, celE, w64, Nat.zero_add, Nat.add_zero, Nat.mul_one, putL, and_self, goC_both, row_aeq, ldn, r_impl_noMoveCostsLess, goX_scope_ret, tm]
    refine ext_ansV3 hX ?_
    rw [hall']
  have rest : ∀ (f t : Nat) (x y : Int) (s : St) (M : Mem) (id5 id6 : Nat), s.m = M → Ext m M → OwnB M m.length 26 [.int .i64 p.turns, u, .int .i64 p.setup, .int .i64 p.unit, .int .i64 p.hold, .int .i64 p.back] → OwnB M id5 60 [.int .i64 t, .int .i64 x, .int .i64 y] → OwnB M id6 60 [.int .i64 N, .int .i64 (-10), .int .i64 p.floor] → id5 ≠ id6 → m.length < id5 → m.length < id6 →
      s.t 1 = vt → s.t 2 = .pointer (some ⟨m.length, 0, none⟩) → s.t 5 = .pointer (some ⟨id5, 0, none⟩) → s.t 6 = .pointer (some ⟨id6, 0, none⟩) → t ≤ N → (t < N → -10 ≤ x ∧ x ≤ 10 ∧ p.lo x ≤ y ∧ y ≤ 10) → (t = N → x = -10 ∧ y = p.floor) →
      (∀ j, j < t → underB p T j = true) → (t < N → ∀ i : Nat, (i : Int) < x + 10 → underI p T t i = true) → (t < N → ∀ z, p.lo x ≤ z → z < y → (T.getD t []).getD (x + 10).toNat 0 ≤ p.move (T.getD (t + 1) []) x z (N - 1 - t)) →
      (N - t) * 462 + (10 - x).toNat * 21 + (10 - y).toNat < f + 441 → goC Try.prog 61 scR (.scope f scC (.done Q)) s := by
    intro f
    induction f with
    | zero =>
      intro t x y s M id5 id6 tm hX hb h5 h6 hne h5m h6m t1 t2 t5 t6 htN hin hend hall hlev hz hf
      rcases Nat.lt_or_ge t N with e | e
      · omega
      · exact fin 0 t x y s M id5 id6 tm hX h5 h6 t5 t6 (by omega) (hend (by omega)) hall
    | succ f ih =>
      intro t x y s M id5 id6 tm hX hb h5 h6 hne h5m h6m t1 t2 t5 t6 htN hin hend hall hlev hz hf
      have hs : scR = scR := rfl
      rcases Nat.lt_or_ge t N with htl | htl
      · obtain ⟨hx1, hx2, hy1, hy2⟩ := hin htl
        have hlo := Pr.lo_in hG (x := x) ⟨hx1, hx2⟩
        have hne3 : ((t : Int) == (N : Int)) = false := by simp; omega
        have hr1 := tabV_row hv (t := t) (by omega)
        have hr2 := tabV_row hv (t := t + 1) (by omega)
        have hTM := hT.xt2 hX
        have a1 := hTM.at_z (z := (t : Int) + 1) (k := t + 1) (by omega) (by omega)
        obtain ⟨w1, a2, a3⟩ := hTM.ld (t + 1) (by omega)
        have b1 := hTM.at_ t (by omega)
        obtain ⟨w2, b2, b3⟩ := hTM.ld t (by omega)
        have hmay : p.may y := ⟨by omega, hy2⟩
        have hup := Pr.up_least hG (T.getD (t + 1) []) (x := x) ⟨hx1, hx2⟩ (N - 1 - t)
        have hi21 : (x + 10).toNat < 21 := by omega
        have hix : (((x + 10).toNat : Nat) : Int) - 10 = x := by omega
        have hui : underI p T t (x + 10).toNat = decide ((T.getD t []).getD (x + 10).toNat 0 ≤ p.move (T.getD (t + 1) []) x (p.up (T.getD (t + 1) []) x (N - 1 - t)) (N - 1 - t)) := by
          unfold underI; rw [hix, ← hN]
        have bad : p.move (T.getD (t + 1) []) x y (N - 1 - t) < (T.getD t []).getD (x + 10).toNat 0 → ∀ A, Ext m A → newQ m (AnsV (.bool ((List.range N).all (underB p T)))) (.bool false) A := fun hq A hA => by
          refine ext_ansV3 hA ?_
          have h1 : underI p T t (x + 10).toNat = false := by
            rw [hui]
            have : p.move (T.getD (t + 1) []) x (p.up (T.getD (t + 1) []) x (N - 1 - t)) (N - 1 - t) ≤ p.move (T.getD (t + 1) []) x y (N - 1 - t) := hup.2.2.1 y hy1 hy2
            exact decide_eq_false (by omega)
          have h2 := underB_no hi21 h1
          have : (List.range N).all (underB p T) = false := by
            cases hr : (List.range N).all (underB p T) with
            | false => rfl
            | true =>
              rw [List.all_eq_true] at hr
              rw [hr t (List.mem_range.2 htl)] at h2; cases h2
          rw [this]
        obtain ⟨KK, hKK⟩ : ∃ KK, KK = Kont.scope (f + 1) scC (.done Q) := ⟨_, rfl⟩
        rw [← hKK]
        simp only [scR, scY, scC, c_impl_noMoveCostsLess]
        simp (config := {implicitDefEqProofs := false, maxDischargeDepth := 20}) (disch := first | omega | (simp only [lenE]; done) | (simp only [lenE]; omega) | rfl | (simp only [lenE, markR_len]; done) | (simp only [lenE, markR_len]; omega)) only [runE, listE, initT_5, initT_6, initT_7, initT_8, resV, oneV, binA, unA, reduceCtorEq, Nat.reduceEqDiff, Nat.reduceAdd, Nat.reduceLT, Nat.reduceLeDiff, Nat.reduceMul, Nat.reduceSub, ↓reduceIte, decide_true, decide_false, Bool.true_eq_false, Bool.false_eq_true, Bool.not_true, Bool.not_false, if_true, if_false, and_true, true_and, memE, celE, w64, Nat.zero_add, Nat.add_zero, Nat.mul_one, putL, and_self, goC_both, row_aeq, ldn, tm, t1, t2, t5, t6, h5.rd, h6.rd, hb.rd, aeq3, hne3, Bool.false_and, a1, a2, b1, b2]
        refine rcallH_rc (moveCost_rc M _ w1 p (T.getD (t + 1) []) t x y (N - 1 - t) (ProcA.mk (hX.ints hu)) a3 hG hr2.1 (vals_in hr2.2) ⟨hx1, hx2⟩ hmay (by omega) (by omega) (by omega) (by omega)) ?_
        rintro r n1 ⟨rfl, nr1⟩
        simp (config := {implicitDefEqProofs := false, maxDischargeDepth := 20}) (disch := first | omega | (simp only [lenE]; done) | (simp only [lenE]; omega) | rfl | (simp only [lenE, markR_len]; done) | (simp only [lenE, markR_len]; omega)) only [runE, listE, initT_5, initT_6, initT_7, initT_8, resV, oneV, binA, unA, reduceCtorEq, Nat.reduceEqDiff, Nat.reduceAdd, Nat.reduceLT, Nat.reduceLeDiff, Nat.reduceMul, Nat.reduceSub, ↓reduceIte, decide_true, decide_false, Bool.true_eq_false, Bool.false_eq_true, Bool.not_true, Bool.not_false, if_true, if_false, and_true, true_and, memE, celE, w64, Nat.zero_add, Nat.add_zero, Nat.mul_one, putL, and_self, goC_both, row_aeq, ldn]
        refine rcallH_rc (placeOf_rc _ x ⟨hx1, hx2⟩) ?_
        rintro r n2 ⟨rfl, rfl⟩
        rw [List.append_nil]
        have hX1 := hX.app nr1
        have hb1 := hb.ext n1
        have h51 := h5.ext n1
        have h61 := h6.ext n1
        have c1 := at_z (b3.ext n1) (z := x + 10) (i := (x + 10).toNat) (by omega) (by omega)
        have c2 := (b3.ext n1).ld (x + 10).toNat (by omega)
        obtain ⟨M1, hM1⟩ : ∃ M', M' = M ++ n1 := ⟨_, rfl⟩
        rw [← hM1] at hX1 hb1 h51 h61 c2
        rw [← hM1]
        have hM1l := hX1.len
        by_cases hq : p.move (T.getD (t + 1) []) x y (N - 1 - t) < (T.getD t []).getD (x + 10).toNat 0
        · simp (config := {implicitDefEqProofs := false, maxDischargeDepth := 20}) (disch := first | omega | (simp only [lenE]; done) | (simp only [lenE]; omega) | rfl | (simp only [lenE, markR_len]; done) | (simp only [lenE, markR_len]; omega)) only [runE, listE, initT_5, initT_6, initT_7, initT_8, resV, oneV, binA, unA, reduceCtorEq, Nat.reduceEqDiff, Nat.reduceAdd, Nat.reduceLT, Nat.reduceLeDiff, Nat.reduceMul, Nat.reduceSub, ↓reduceIte, decide_true, decide_false, Bool.true_eq_false, Bool.false_eq_true, Bool.not_true, Bool.not_false, if_true, if_false, and_true, true_and, memE, celE, w64, Nat.zero_add, Nat.add_zero, Nat.mul_one, putL, and_self, goC_both, row_aeq, ldn, c1, c2, hq]
          rw [hKK, hQ]
          simp (config := {implicitDefEqProofs := false, maxDischargeDepth := 20}) (disch := first | omega | (simp only [lenE]; done) | (simp only [lenE]; omega) | rfl | (simp only [lenE, markR_len]; done) | (simp only [lenE, markR_len]; omega)) only [runE, listE, initT_5, initT_6, initT_7, initT_8, resV, oneV, binA, unA, reduceCtorEq, Nat.reduceEqDiff, Nat.reduceAdd, Nat.reduceLT, Nat.reduceLeDiff, Nat.reduceMul, Nat.reduceSub, ↓reduceIte, decide_true, decide_false, Bool.true_eq_false, Bool.false_eq_true, Bool.not_true, Bool.not_false, if_true, if_false, and_true, true_and, memE, celE, w64, Nat.zero_add, Nat.add_zero, Nat.mul_one, putL, and_self, goC_both, row_aeq, ldn, r_impl_noMoveCostsLess, goX_scope_ret]
          exact bad hq _ hX1
        · have hz' : ∀ z, p.lo x ≤ z → z < y + 1 → (T.getD t []).getD (x + 10).toNat 0 ≤ p.move (T.getD (t + 1) []) x z (N - 1 - t) := fun z h1 h2 => by
            by_cases e : z = y
            · rw [e]; omega
            · exact hz htl z h1 (by omega)
          by_cases hy : y < 10
          · have hst := h51.st (off := 2) (vs := [.int .i64 (y + 1)]) (by simp) rfl
            simp (config := {implicitDefEqProofs := false, maxDischargeDepth := 20}) (disch := first | omega | (simp only [lenE]; done) | (simp only [lenE]; omega) | rfl | (simp only [lenE, markR_len]; done) | (simp only [lenE, markR_len]; omega)) only [runE, listE, initT_5, initT_6, initT_7, initT_8, resV, oneV, binA, unA, reduceCtorEq, Nat.reduceEqDiff, Nat.reduceAdd, Nat.reduceLT, Nat.reduceLeDiff, Nat.reduceMul, Nat.reduceSub, ↓reduceIte, decide_true, decide_false, Bool.true_eq_false, Bool.false_eq_true, Bool.not_true, Bool.not_false, if_true, if_false, and_true, true_and, memE, celE, w64, Nat.zero_add, Nat.add_zero, Nat.mul_one, putL, and_self, goC_both, row_aeq, ldn, c1, c2, hq, t1, t2, t5, t6, h51.rd, hy, hst]
            rw [hKK]
            simp (config := {implicitDefEqProofs := false, maxDischargeDepth := 20}) (disch := first | omega | (simp only [lenE]; done) | (simp only [lenE]; omega) | rfl | (simp only [lenE, markR_len]; done) | (simp only [lenE, markR_len]; omega)) only [runE, listE, initT_5, initT_6, initT_7, initT_8, resV, oneV, binA, unA, reduceCtorEq, Nat.reduceEqDiff, Nat.reduceAdd, Nat.reduceLT, Nat.reduceLeDiff, Nat.reduceMul, Nat.reduceSub, ↓reduceIte, decide_true, decide_false, Bool.true_eq_false, Bool.false_eq_true, Bool.not_true, Bool.not_false, if_true, if_false, and_true, true_and, memE, celE, w64, Nat.zero_add, Nat.add_zero, Nat.mul_one, putL, and_self, goC_both, row_aeq, ldn, goC_goto, goX_seq_goto, goX_block_goto, goX_scope_goto, sc_find, goJ_some]
            exact ih t x (y + 1) _ _ id5 id6 rfl (hX1.put (by omega) _ _) (OwnB.set_ne hb1 (by omega) _) (h51.set_self _ _) (OwnB.set_ne h61 hne _) hne h5m h6m (by simp only [put_t, put_t', put_m, putT_t, putT_t', putT_m, init_t, init_m, initT_0, initT_1, initT_2, initT_3, initT_4, initT_5, initT_6, initT_7, initT_8, Nat.reduceEqDiff, ↓reduceIte, t1]) (by simp only [put_t, put_t', put_m, putT_t, putT_t', putT_m, init_t, init_m, initT_0, initT_1, initT_2, initT_3, initT_4, initT_5, initT_6, initT_7, initT_8, Nat.reduceEqDiff, ↓reduceIte, t2]) (by simp only [put_t, put_t', put_m, putT_t, putT_t', putT_m, init_t, init_m, initT_0, initT_1, initT_2, initT_3, initT_4, initT_5, initT_6, initT_7, initT_8, Nat.reduceEqDiff, ↓reduceIte, t5]) (by simp only [put_t, put_t', put_m, putT_t, putT_t', putT_m, init_t, init_m, initT_0, initT_1, initT_2, initT_3, initT_4, initT_5, initT_6, initT_7, initT_8, Nat.reduceEqDiff, ↓reduceIte, t6]) htN (fun _ => ⟨hx1, hx2, by omega, by omega⟩) (fun e => absurd e (by omega)) hall hlev (fun _ => hz') (by omega)
          · have hy10 : y = 10 := by omega
            have hlx : underI p T t (x + 10).toNat = true := by
              rw [hui]
              exact decide_eq_true (hz' _ hup.1 (by have := hup.2.1; omega))
            by_cases hx : x < 10
            · have hst := h51.st (off := 1) (vs := [.int .i64 (x + 1)]) (by simp) rfl
              have h52 : OwnB (M1.set id5 ⟨.own, 60, [.int .i64 t, .int .i64 (x + 1), .int .i64 y]⟩) id5 60 [.int .i64 t, .int .i64 (x + 1), .int .i64 y] := h51.set_self _ _
              have hb2 : OwnB (M1.set id5 ⟨.own, 60, [.int .i64 t, .int .i64 (x + 1), .int .i64 y]⟩) m.length 26 [.int .i64 p.turns, u, .int .i64 p.setup, .int .i64 p.unit, .int .i64 p.hold, .int .i64 p.back] := OwnB.set_ne hb1 (by omega) _
              have h62 : OwnB (M1.set id5 ⟨.own, 60, [.int .i64 t, .int .i64 (x + 1), .int .i64 y]⟩) id6 60 [.int .i64 N, .int .i64 (-10), .int .i64 p.floor] := OwnB.set_ne h61 hne _
              have hX2 : Ext m (M1.set id5 ⟨.own, 60, [.int .i64 t, .int .i64 (x + 1), .int .i64 y]⟩) := hX1.put (by omega) _ _
              simp (config := {implicitDefEqProofs := false, maxDischargeDepth := 20}) (disch := first | omega | (simp only [lenE]; done) | (simp only [lenE]; omega) | rfl | (simp only [lenE, markR_len]; done) | (simp only [lenE, markR_len]; omega)) only [runE, listE, initT_5, initT_6, initT_7, initT_8, resV, oneV, binA, unA, reduceCtorEq, Nat.reduceEqDiff, Nat.reduceAdd, Nat.reduceLT, Nat.reduceLeDiff, Nat.reduceMul, Nat.reduceSub, ↓reduceIte, decide_true, decide_false, Bool.true_eq_false, Bool.false_eq_true, Bool.not_true, Bool.not_false, if_true, if_false, and_true, true_and, memE, celE, w64, Nat.zero_add, Nat.add_zero, Nat.mul_one, putL, and_self, goC_both, row_aeq, ldn, c1, c2, hq, t1, t2, t5, t6, h51.rd, hy, hx, hst]
              obtain ⟨M2, hM2⟩ : ∃ M' : Mem, M' = M1.set id5 ⟨.own, 60, [.int .i64 t, .int .i64 (x + 1), .int .i64 y]⟩ := ⟨_, rfl⟩
              rw [← hM2] at h52 hb2 h62 hX2
              try rw [← hM2]
              simp (config := {implicitDefEqProofs := false, maxDischargeDepth := 20}) (disch := first | omega | (simp only [lenE]; done) | (simp only [lenE]; omega) | rfl | (simp only [lenE, markR_len]; done) | (simp only [lenE, markR_len]; omega)) only [runE, listE, initT_5, initT_6, initT_7, initT_8, resV, oneV, binA, unA, reduceCtorEq, Nat.reduceEqDiff, Nat.reduceAdd, Nat.reduceLT, Nat.reduceLeDiff, Nat.reduceMul, Nat.reduceSub, ↓reduceIte, decide_true, decide_false, Bool.true_eq_false, Bool.false_eq_true, Bool.not_true, Bool.not_false, if_true, if_false, and_true, true_and, memE, celE, w64, Nat.zero_add, Nat.add_zero, Nat.mul_one, putL, and_self, goC_both, row_aeq, ldn, t1, t2, t5, t6, h52.rd, hb2.rd]
              refine rcallH_rc (floorOf_rc M2 _ p (ProcA.mk (hX2.ints hu)) hlen.2) ?_
              rintro r n3 ⟨rfl, nr3⟩
              have h53 := h52.ext n3
              have hst3 := h53.st (off := 2) (vs := [.int .i64 (p.lo (x + 1))]) (by simp) rfl
              simp (config := {implicitDefEqProofs := false, maxDischargeDepth := 20}) (disch := first | omega | (simp only [lenE]; done) | (simp only [lenE]; omega) | rfl | (simp only [lenE, markR_len]; done) | (simp only [lenE, markR_len]; omega)) only [runE, listE, initT_5, initT_6, initT_7, initT_8, resV, oneV, binA, unA, reduceCtorEq, Nat.reduceEqDiff, Nat.reduceAdd, Nat.reduceLT, Nat.reduceLeDiff, Nat.reduceMul, Nat.reduceSub, ↓reduceIte, decide_true, decide_false, Bool.true_eq_false, Bool.false_eq_true, Bool.not_true, Bool.not_false, if_true, if_false, and_true, true_and, memE, celE, w64, Nat.zero_add, Nat.add_zero, Nat.mul_one, putL, and_self, goC_both, row_aeq, ldn, t1, t2, t5, t6, h53.rd, show max (x + 1) p.floor = p.lo (x + 1) from rfl, hst3]
              rw [hKK]
              simp (config := {implicitDefEqProofs := false, maxDischargeDepth := 20}) (disch := first | omega | (simp only [lenE]; done) | (simp only [lenE]; omega) | rfl | (simp only [lenE, markR_len]; done) | (simp only [lenE, markR_len]; omega)) only [runE, listE, initT_5, initT_6, initT_7, initT_8, resV, oneV, binA, unA, reduceCtorEq, Nat.reduceEqDiff, Nat.reduceAdd, Nat.reduceLT, Nat.reduceLeDiff, Nat.reduceMul, Nat.reduceSub, ↓reduceIte, decide_true, decide_false, Bool.true_eq_false, Bool.false_eq_true, Bool.not_true, Bool.not_false, if_true, if_false, and_true, true_and, memE, celE, w64, Nat.zero_add, Nat.add_zero, Nat.mul_one, putL, and_self, goC_both, row_aeq, ldn, goC_goto, goX_seq_goto, goX_block_goto, goX_scope_goto, sc_find, goJ_some]
              have hlo' := Pr.lo_in hG (x := x + 1) ⟨by omega, by omega⟩
              exact ih t (x + 1) (p.lo (x + 1)) _ _ id5 id6 rfl ((hX2.app nr3).put (by omega) _ _) (OwnB.set_ne (hb2.ext n3) (by omega) _) (h53.set_self _ _) (OwnB.set_ne (h62.ext n3) hne _) hne h5m h6m (by simp only [put_t, put_t', put_m, putT_t, putT_t', putT_m, init_t, init_m, initT_0, initT_1, initT_2, initT_3, initT_4, initT_5, initT_6, initT_7, initT_8, Nat.reduceEqDiff, ↓reduceIte, t1]) (by simp only [put_t, put_t', put_m, putT_t, putT_t', putT_m, init_t, init_m, initT_0, initT_1, initT_2, initT_3, initT_4, initT_5, initT_6, initT_7, initT_8, Nat.reduceEqDiff, ↓reduceIte, t2]) (by simp only [put_t, put_t', put_m, putT_t, putT_t', putT_m, init_t, init_m, initT_0, initT_1, initT_2, initT_3, initT_4, initT_5, initT_6, initT_7, initT_8, Nat.reduceEqDiff, ↓reduceIte, t5]) (by simp only [put_t, put_t', put_m, putT_t, putT_t', putT_m, init_t, init_m, initT_0, initT_1, initT_2, initT_3, initT_4, initT_5, initT_6, initT_7, initT_8, Nat.reduceEqDiff, ↓reduceIte, t6]) htN (fun _ => ⟨by omega, by omega, by omega, by omega⟩) (fun e => absurd e (by omega)) hall (fun _ i hi => by
                by_cases e : i = (x + 10).toNat
                · rw [e]; exact hlx
                · exact hlev htl i (by omega)) (fun _ z h1 h2 => absurd h2 (by omega)) (by omega)
            · have hx10 : x = 10 := by omega
              have hut : underB p T t = true := underB_yes fun i hi => by
                by_cases e : i = (x + 10).toNat
                · rw [e]; exact hlx
                · exact hlev htl i (by omega)
              simp (config := {implicitDefEqProofs := false, maxDischargeDepth := 20}) (disch := first | omega | (simp only [lenE]; done) | (simp only [lenE]; omega) | rfl | (simp only [lenE, markR_len]; done) | (simp only [lenE, markR_len]; omega)) only [runE, listE, initT_5, initT_6, initT_7, initT_8, resV, oneV, binA, unA, reduceCtorEq, Nat.reduceEqDiff, Nat.reduceAdd, Nat.reduceLT, Nat.reduceLeDiff, Nat.reduceMul, Nat.reduceSub, ↓reduceIte, decide_true, decide_false, Bool.true_eq_false, Bool.false_eq_true, Bool.not_true, Bool.not_false, if_true, if_false, and_true, true_and, memE, celE, w64, Nat.zero_add, Nat.add_zero, Nat.mul_one, putL, and_self, goC_both, row_aeq, ldn, c1, c2, hq, t1, t2, t5, t6, h51.rd, hy, hx, hb1.rd]
              refine callH_rc (firstMove_rc M1 _ p ((t : Int) + 1) (ProcA.mk (hX1.ints hu)) hlen.2) ?_
              rintro r n3 ⟨rfl, nr3⟩
              have h53 := h51.ext n3
              have hst3 := h53.st (off := 0) (vs := [.int .i64 ((t : Int) + 1), .int .i64 (-10), .int .i64 p.floor]) (by simp) rfl
              simp (config := {implicitDefEqProofs := false, maxDischargeDepth := 20}) (disch := first | omega | (simp only [lenE]; done) | (simp only [lenE]; omega) | rfl | (simp only [lenE, markR_len]; done) | (simp only [lenE, markR_len]; omega)) only [runE, listE, initT_5, initT_6, initT_7, initT_8, resV, oneV, binA, unA, reduceCtorEq, Nat.reduceEqDiff, Nat.reduceAdd, Nat.reduceLT, Nat.reduceLeDiff, Nat.reduceMul, Nat.reduceSub, ↓reduceIte, decide_true, decide_false, Bool.true_eq_false, Bool.false_eq_true, Bool.not_true, Bool.not_false, if_true, if_false, and_true, true_and, memE, celE, w64, Nat.zero_add, Nat.add_zero, Nat.mul_one, putL, and_self, goC_both, row_aeq, ldn, t1, t2, t5, t6, hst3]
              rw [hKK]
              simp (config := {implicitDefEqProofs := false, maxDischargeDepth := 20}) (disch := first | omega | (simp only [lenE]; done) | (simp only [lenE]; omega) | rfl | (simp only [lenE, markR_len]; done) | (simp only [lenE, markR_len]; omega)) only [runE, listE, initT_5, initT_6, initT_7, initT_8, resV, oneV, binA, unA, reduceCtorEq, Nat.reduceEqDiff, Nat.reduceAdd, Nat.reduceLT, Nat.reduceLeDiff, Nat.reduceMul, Nat.reduceSub, ↓reduceIte, decide_true, decide_false, Bool.true_eq_false, Bool.false_eq_true, Bool.not_true, Bool.not_false, if_true, if_false, and_true, true_and, memE, celE, w64, Nat.zero_add, Nat.add_zero, Nat.mul_one, putL, and_self, goC_both, row_aeq, ldn, goC_goto, goX_seq_goto, goX_block_goto, goX_scope_goto, sc_find, goJ_some]
              have hlo' : p.lo (-10) = p.floor := by unfold Pr.lo; omega
              have hme := next_turn htl (fl := p.floor) (a := (10 - x).toNat * 21 + (10 - y).toNat) hfl.1 (by rw [← Nat.add_assoc]; exact hf)
              refine ih (t + 1) (-10) p.floor _ _ id5 id6 rfl ((hX1.app nr3).put (by omega) _ _) (OwnB.set_ne (hb1.ext n3) (by omega) _) (h53.set_self _ _) (OwnB.set_ne (h61.ext n3) hne _) hne h5m h6m (by simp only [put_t, put_t', put_m, putT_t, putT_t', putT_m, init_t, init_m, initT_0, initT_1, initT_2, initT_3, initT_4, initT_5, initT_6, initT_7, initT_8, Nat.reduceEqDiff, ↓reduceIte, t1]) (by simp only [put_t, put_t', put_m, putT_t, putT_t', putT_m, init_t, init_m, initT_0, initT_1, initT_2, initT_3, initT_4, initT_5, initT_6, initT_7, initT_8, Nat.reduceEqDiff, ↓reduceIte, t2]) (by simp only [put_t, put_t', put_m, putT_t, putT_t', putT_m, init_t, init_m, initT_0, initT_1, initT_2, initT_3, initT_4, initT_5, initT_6, initT_7, initT_8, Nat.reduceEqDiff, ↓reduceIte, t5]) (by simp only [put_t, put_t', put_m, putT_t, putT_t', putT_m, init_t, init_m, initT_0, initT_1, initT_2, initT_3, initT_4, initT_5, initT_6, initT_7, initT_8, Nat.reduceEqDiff, ↓reduceIte, t6]) (by omega) (fun _ => ⟨by omega, by omega, by omega, by omega⟩) (fun _ => ⟨rfl, rfl⟩) (fun j hj => ?_) (fun _ i hi => absurd hi (by omega)) (fun _ z h1 h2 => absurd h2 (by omega)) hme
              by_cases e : j = t
              · rw [e]; exact hut
              · exact hall j (by omega)
      · exact fin (f + 1) t x y s M id5 id6 tm hX h5 h6 t5 t6 (by omega) (hend (by omega)) hall
  rw [hQ] at rest
  obtain ⟨F, hF⟩ : ∃ F, F = N * 462 + 1000 := ⟨_, rfl⟩
  simp (config := {implicitDefEqProofs := false, maxDischargeDepth := 20}) (disch := first | omega | (simp only [lenE]; done) | (simp only [lenE]; omega) | rfl | (simp only [lenE, markR_len]; done) | (simp only [lenE, markR_len]; omega)) only [runE, listE, initT_5, initT_6, initT_7, initT_8, resV, oneV, binA, unA, reduceCtorEq, Nat.reduceEqDiff, Nat.reduceAdd, Nat.reduceLT, Nat.reduceLeDiff, Nat.reduceMul, Nat.reduceSub, ↓reduceIte, decide_true, decide_false, Bool.true_eq_false, Bool.false_eq_true, Bool.not_true, Bool.not_false, if_true, if_false, and_true, true_and, memE, celE, w64, Nat.zero_add, Nat.add_zero, Nat.mul_one, putL, and_self, goC_both, row_aeq, ldn, c_impl_noMoveCostsLess, r_impl_noMoveCostsLess, goC_scope]
  refine scope_run mixed F ?_
  change goC _ _ _ (.scope F scC (.done (bodyQ r_impl_noMoveCostsLess (newQ m (AnsV (.bool ((List.range N).all (underB p T)))))))) _
  simp (config := {implicitDefEqProofs := false, maxDischargeDepth := 20}) (disch := first | omega | (simp only [lenE]; done) | (simp only [lenE]; omega) | rfl | (simp only [lenE, markR_len]; done) | (simp only [lenE, markR_len]; omega)) only [runE, listE, initT_5, initT_6, initT_7, initT_8, resV, oneV, binA, unA, reduceCtorEq, Nat.reduceEqDiff, Nat.reduceAdd, Nat.reduceLT, Nat.reduceLeDiff, Nat.reduceMul, Nat.reduceSub, ↓reduceIte, decide_true, decide_false, Bool.true_eq_false, Bool.false_eq_true, Bool.not_true, Bool.not_false, if_true, if_false, and_true, true_and, memE, celE, w64, Nat.zero_add, Nat.add_zero, Nat.mul_one, putL, and_self, goC_both, row_aeq, ldn]
  repeat' (with_reducible apply And.intro)
  all_goals
    refine rcallH_rc (firstMove_rc _ _ p 0 (ProcA.mk (by repeat (first | exact hu | apply IntsA.ext))) hlen.2) ?_
    rintro r n1 ⟨rfl, nr1⟩
    simp (config := {implicitDefEqProofs := false, maxDischargeDepth := 20}) (disch := first | omega | (simp only [lenE]; done) | (simp only [lenE]; omega) | rfl | (simp only [lenE, markR_len]; done) | (simp only [lenE, markR_len]; omega)) only [runE, listE, initT_5, initT_6, initT_7, initT_8, resV, oneV, binA, unA, reduceCtorEq, Nat.reduceEqDiff, Nat.reduceAdd, Nat.reduceLT, Nat.reduceLeDiff, Nat.reduceMul, Nat.reduceSub, ↓reduceIte, decide_true, decide_false, Bool.true_eq_false, Bool.false_eq_true, Bool.not_true, Bool.not_false, if_true, if_false, and_true, true_and, memE, celE, w64, Nat.zero_add, Nat.add_zero, Nat.mul_one, putL, and_self, goC_both, row_aeq, ldn]
    repeat' (with_reducible apply And.intro)
  all_goals
    refine rcallH_rc (firstMove_rc _ _ p p.turns (ProcA.mk (by repeat (first | exact hu | apply IntsA.ext))) hlen.2) ?_
    rintro r n2 ⟨rfl, nr2⟩
    simp (config := {implicitDefEqProofs := false, maxDischargeDepth := 20}) (disch := first | omega | (simp only [lenE]; done) | (simp only [lenE]; omega) | rfl | (simp only [lenE, markR_len]; done) | (simp only [lenE, markR_len]; omega)) only [runE, listE, initT_5, initT_6, initT_7, initT_8, resV, oneV, binA, unA, reduceCtorEq, Nat.reduceEqDiff, Nat.reduceAdd, Nat.reduceLT, Nat.reduceLeDiff, Nat.reduceMul, Nat.reduceSub, ↓reduceIte, decide_true, decide_false, Bool.true_eq_false, Bool.false_eq_true, Bool.not_true, Bool.not_false, if_true, if_false, and_true, true_and, memE, celE, w64, Nat.zero_add, Nat.add_zero, Nat.mul_one, putL, and_self, goC_both, row_aeq, ldn]
    repeat' (with_reducible apply And.intro)
  all_goals
    refine lab_rest ?_
    refine rest F 0 (-10) p.floor _ _ _ _ rfl ?_ ?_ ?_ ?_ ?_ ?_ ?_ rfl rfl rfl rfl (by omega) (fun _ => ⟨by omega, by omega, ?_, by omega⟩) (fun _ => ⟨rfl, rfl⟩) (fun j hj => absurd hj (by omega)) (fun _ i hi => absurd hi (by omega)) (fun _ z h1 h2 => absurd h2 ?_) (by omega)
    · repeat (first | exact Ext.refl m | apply Ext.one | refine Ext.app ?_ (by assumption))
    · repeat (first | exact OwnB.here (by simp [roM_len] <;> omega) | exact OwnB.here (by simp [roM_len]) | refine OwnB.ext ?_ _)
    · repeat (first | exact OwnB.here (by simp [roM_len] <;> omega) | exact OwnB.here (by simp [roM_len]) | refine OwnB.ext ?_ _)
    · rw [← hNt]
      repeat (first | exact OwnB.here (by simp [roM_len] <;> omega) | exact OwnB.here (by simp [roM_len]) | refine OwnB.ext ?_ _)
    · omega
    · omega
    · omega
    · unfold Pr.lo; omega
    · unfold Pr.lo at h1; omega
theorem implProof6_rc (m : Mem) (v vt : Value) (p : Pr) (T : List (List Int)) (h : ProcA m v p) (hT : TabA m vt T) : RC Try.prog 23 [v, vt] m (AnsV (.tuple #[.bool (p.good && proofB p T), .bool p.good])) := by
  refine rc_of_run mixed ok_impl_IsWorthProof (by simp) (go_start _ _ _ ?_)
  obtain ⟨u, rfl, hu⟩ := h.ro
  simp (config := {implicitDefEqProofs := false, maxDischargeDepth := 20}) (disch := first | omega | (simp only [lenE]; done) | (simp only [lenE]; omega) | rfl | (simp only [lenE, markR_len]; done) | (simp only [lenE, markR_len]; omega)) only [runE, mapE, listE, initT_5, initT_6, initT_7, initT_8, resV, oneV, binA, unA, reduceCtorEq, Nat.reduceEqDiff, Nat.reduceAdd, Nat.reduceLT, Nat.reduceLeDiff, Nat.reduceMul, Nat.reduceSub, ↓reduceIte, decide_true, decide_false, Bool.true_eq_false, Bool.false_eq_true, Bool.not_true, Bool.not_false, if_true, if_false, and_true, true_and, memE, celE, w64, Nat.zero_add, Nat.add_zero, Nat.mul_one, putL, and_self, ldn, c_impl_IsWorthProof, r_impl_IsWorthProof]
  refine callH_rc (implIsProcess_rc _ _ p (ProcA.mk (hu.ext _))) ?_
  rintro r n1 ⟨rfl, nr1⟩
  cases hg : p.good with
  | false =>
    simp (config := {implicitDefEqProofs := false, maxDischargeDepth := 20}) (disch := first | omega | (simp only [lenE]; done) | (simp only [lenE]; omega) | rfl | (simp only [lenE, markR_len]; done) | (simp only [lenE, markR_len]; omega)) only [runE, mapE, listE, initT_5, initT_6, initT_7, initT_8, resV, oneV, binA, unA, reduceCtorEq, Nat.reduceEqDiff, Nat.reduceAdd, Nat.reduceLT, Nat.reduceLeDiff, Nat.reduceMul, Nat.reduceSub, ↓reduceIte, decide_true, decide_false, Bool.true_eq_false, Bool.false_eq_true, Bool.not_true, Bool.not_false, if_true, if_false, and_true, true_and, memE, celE, w64, Nat.zero_add, Nat.add_zero, Nat.mul_one, putL, and_self, ldn]
    try simp only [List.append_assoc, List.cons_append, List.nil_append, List.append_nil]
    exact ⟨_, rfl, by (repeat (first | exact noRo_nil | assumption | apply noRo_own | apply noRo_dead | apply noRo_app)), by simp, by (repeat (first | exact noRo_nil | assumption | apply noRo_own | apply noRo_dead | apply noRo_app))⟩
  | true =>
    have hG := goodP_iff.1 hg
    simp (config := {implicitDefEqProofs := false, maxDischargeDepth := 20}) (disch := first | omega | (simp only [lenE]; done) | (simp only [lenE]; omega) | rfl | (simp only [lenE, markR_len]; done) | (simp only [lenE, markR_len]; omega)) only [runE, mapE, listE, initT_5, initT_6, initT_7, initT_8, resV, oneV, binA, unA, reduceCtorEq, Nat.reduceEqDiff, Nat.reduceAdd, Nat.reduceLT, Nat.reduceLeDiff, Nat.reduceMul, Nat.reduceSub, ↓reduceIte, decide_true, decide_false, Bool.true_eq_false, Bool.false_eq_true, Bool.not_true, Bool.not_false, if_true, if_false, and_true, true_and, memE, celE, w64, Nat.zero_add, Nat.add_zero, Nat.mul_one, putL, and_self, ldn]
    refine callH_rc (isValueTable_rc _ _ vt p T (ProcA.mk ((hu.ext _).ext _)) ((hT.ro.ext _).ext _) hG) ?_
    rintro r n2 ⟨rfl, nr2⟩
    cases hc : (tabVB p T && lastB p T) with
    | false =>
      simp (config := {implicitDefEqProofs := false, maxDischargeDepth := 20}) (disch := first | omega | (simp only [lenE]; done) | (simp only [lenE]; omega) | rfl | (simp only [lenE, markR_len]; done) | (simp only [lenE, markR_len]; omega)) only [runE, mapE, listE, initT_5, initT_6, initT_7, initT_8, resV, oneV, binA, unA, reduceCtorEq, Nat.reduceEqDiff, Nat.reduceAdd, Nat.reduceLT, Nat.reduceLeDiff, Nat.reduceMul, Nat.reduceSub, ↓reduceIte, decide_true, decide_false, Bool.true_eq_false, Bool.false_eq_true, Bool.not_true, Bool.not_false, if_true, if_false, and_true, true_and, memE, celE, w64, Nat.zero_add, Nat.add_zero, Nat.mul_one, putL, and_self, ldn]
      try simp only [List.append_assoc, List.cons_append, List.nil_append, List.append_nil]
      exact ⟨_, rfl, by (repeat (first | exact noRo_nil | assumption | apply noRo_own | apply noRo_dead | apply noRo_app)), by simp [proofB, hc], by (repeat (first | exact noRo_nil | assumption | apply noRo_own | apply noRo_dead | apply noRo_app))⟩
    | true =>
      have hv : tabVB p T = true := by
        rw [Bool.and_eq_true] at hc; exact hc.1
      simp (config := {implicitDefEqProofs := false, maxDischargeDepth := 20}) (disch := first | omega | (simp only [lenE]; done) | (simp only [lenE]; omega) | rfl | (simp only [lenE, markR_len]; done) | (simp only [lenE, markR_len]; omega)) only [runE, mapE, listE, initT_5, initT_6, initT_7, initT_8, resV, oneV, binA, unA, reduceCtorEq, Nat.reduceEqDiff, Nat.reduceAdd, Nat.reduceLT, Nat.reduceLeDiff, Nat.reduceMul, Nat.reduceSub, ↓reduceIte, decide_true, decide_false, Bool.true_eq_false, Bool.false_eq_true, Bool.not_true, Bool.not_false, if_true, if_false, and_true, true_and, memE, celE, w64, Nat.zero_add, Nat.add_zero, Nat.mul_one, putL, and_self, ldn]
      refine callH_rc (noMove_rc _ _ vt p T (ProcA.mk (((hu.ext _).ext _).ext _)) (((hT.ro.ext _).ext _).ext _) hG hv) ?_
      rintro r n3 ⟨rfl, nr3⟩
      simp (config := {implicitDefEqProofs := false, maxDischargeDepth := 20}) (disch := first | omega | (simp only [lenE]; done) | (simp only [lenE]; omega) | rfl | (simp only [lenE, markR_len]; done) | (simp only [lenE, markR_len]; omega)) only [runE, mapE, listE, initT_5, initT_6, initT_7, initT_8, resV, oneV, binA, unA, reduceCtorEq, Nat.reduceEqDiff, Nat.reduceAdd, Nat.reduceLT, Nat.reduceLeDiff, Nat.reduceMul, Nat.reduceSub, ↓reduceIte, decide_true, decide_false, Bool.true_eq_false, Bool.false_eq_true, Bool.not_true, Bool.not_false, if_true, if_false, and_true, true_and, memE, celE, w64, Nat.zero_add, Nat.add_zero, Nat.mul_one, putL, and_self, ldn]
      try simp only [List.append_assoc, List.cons_append, List.nil_append, List.append_nil]
      exact ⟨_, rfl, by (repeat (first | exact noRo_nil | assumption | apply noRo_own | apply noRo_dead | apply noRo_app)), by simp [proofB, hc], by (repeat (first | exact noRo_nil | assumption | apply noRo_own | apply noRo_dead | apply noRo_app))⟩
end Go.Proofs.Ytbchcbhleldhiaa.Ab
end
section
namespace Go.Proofs.Ytbchcbhleldhiaa.Ab
open Go Go.RowKit Go.Proofs
set_option maxRecDepth 100000
def c_laws_FnWorths : ACode := .seq (.reg [⟨(some 2), .mv (.const (.bool false)), none⟩])
 (.seq (.seq (.reg [⟨(some 38), .mv (.tmp 0), none⟩,
  ⟨(some 39), .call (.func 5) [(.tmp 38)], none⟩])
 (.cond (.tmp 39) (.seq (.reg [⟨(some 2), .mv (.const (.bool true)), none⟩])
 (.ret)) (.skip)))
 (.seq (.reg [⟨(some 41), .mv (.tmp 0), none⟩,
  ⟨(some 42), .call (.func 6) [(.tmp 41)], none⟩,
  ⟨(some 40), .mv (.tmp 42), none⟩,
  ⟨(some 43), .ext 0 (.tmp 40), none⟩,
  ⟨(some 44), .ext 1 (.tmp 40), none⟩,
  ⟨(some 3), .alc 26 [(.int .i64 0), (.slice none 0 0), (.int .i64 0), (.int .i64 0), (.int .i64 0), (.int .i64 0)], none⟩,
  ⟨none, .st 6 (.tmp 3) (.tmp 43), none⟩,
  ⟨(some 4), .mv (.tmp 44), none⟩])
 (.seq (.reg [⟨(some 46), .ld (some 6) (.tmp 3), none⟩,
  ⟨(some 47), .mv (.tmp 4), none⟩,
  ⟨(some 48), .call (.func 7) [(.tmp 46), (.tmp 47)], none⟩,
  ⟨(some 45), .mv (.tmp 48), none⟩,
  ⟨(some 49), .ext 0 (.tmp 45), none⟩,
  ⟨(some 50), .ext 1 (.tmp 45), none⟩,
  ⟨(some 5), .mv (.tmp 49), none⟩,
  ⟨(some 6), .mv (.tmp 50), none⟩])
 (.seq (.seq (.reg [⟨(some 52), .ld (some 6) (.tmp 3), none⟩,
  ⟨(some 53), .mv (.tmp 4), none⟩,
  ⟨(some 54), .call (.func 8) [(.tmp 52), (.tmp 53)], none⟩,
  ⟨(some 51), .mv (.tmp 54), none⟩,
  ⟨(some 55), .ext 0 (.tmp 51), none⟩,
  ⟨(some 56), .ext 1 (.tmp 51), none⟩,
  ⟨(some 7), .mv (.tmp 55), none⟩,
  ⟨(some 8), .mv (.tmp 56), none⟩])
 (.seq (.reg [⟨(some 57), .mv (.tmp 6), none⟩,
  ⟨(some 58), .mv (.tmp 8), none⟩,
  ⟨(some 59), .beq true (.tmp 57) (.tmp 58), none⟩,
  ⟨(some 60), .mv (.tmp 59), none⟩,
  ⟨(some 61), .mv (.tmp 5), (some (60, false))⟩,
  ⟨(some 62), .mv (.tmp 7), (some (60, false))⟩,
  ⟨(some 63), .call (.func 9) [(.tmp 61), (.tmp 62)], (some (60, false))⟩,
  ⟨(some 64), .un .not (.tmp 63), (some (60, false))⟩,
  ⟨(some 65), .pick (.tmp 60) (.const (.bool true)) (.tmp 64), none⟩])
 (.cond (.tmp 65) (.seq (.reg [⟨(some 2), .mv (.const (.bool false)), none⟩])
 (.ret)) (.skip))))
 (.seq (.reg [⟨(some 67), .ld (some 6) (.tmp 3), none⟩,
  ⟨(some 68), .mv (.tmp 4), none⟩,
  ⟨(some 69), .call (.func 10) [(.tmp 67), (.tmp 68)], none⟩,
  ⟨(some 66), .mv (.tmp 69), none⟩,
  ⟨(some 70), .ext 0 (.tmp 66), none⟩,
  ⟨(some 71), .ext 1 (.tmp 66), none⟩,
  ⟨(some 9), .mv (.tmp 70), none⟩,
  ⟨(some 10), .mv (.tmp 71), none⟩])
 (.seq (.seq (.reg [⟨(some 73), .ld (some 6) (.tmp 3), none⟩,
  ⟨(some 74), .mv (.tmp 4), none⟩,
  ⟨(some 75), .call (.func 11) [(.tmp 73), (.tmp 74)], none⟩,
  ⟨(some 72), .mv (.tmp 75), none⟩,
  ⟨(some 76), .ext 0 (.tmp 72), none⟩,
  ⟨(some 77), .ext 1 (.tmp 72), none⟩,
  ⟨(some 11), .mv (.tmp 76), none⟩,
  ⟨(some 12), .mv (.tmp 77), none⟩])
 (.seq (.reg [⟨(some 78), .mv (.tmp 9), none⟩,
  ⟨(some 79), .mv (.tmp 11), none⟩,
  ⟨(some 80), .beq true (.tmp 78) (.tmp 79), none⟩,
  ⟨(some 81), .mv (.tmp 80), none⟩,
  ⟨(some 82), .mv (.tmp 10), (some (81, false))⟩,
  ⟨(some 83), .mv (.tmp 12), (some (81, false))⟩,
  ⟨(some 84), .beq true (.tmp 82) (.tmp 83), (some (81, false))⟩,
  ⟨(some 85), .pick (.tmp 81) (.const (.bool true)) (.tmp 84), none⟩,
  ⟨(some 86), .mv (.tmp 85), none⟩,
  ⟨(some 87), .mv (.tmp 10), (some (86, false))⟩,
  ⟨(some 88), .ld (some 6) (.tmp 3), (some (86, false))⟩,
  ⟨(some 89), .call (.func 12) [(.tmp 88)], (some (86, false))⟩,
  ⟨(some 90), .beq true (.tmp 87) (.tmp 89), (some (86, false))⟩,
  ⟨(some 91), .pick (.tmp 86) (.const (.bool true)) (.tmp 90), none⟩,
  ⟨(some 92), .mv (.tmp 91), none⟩,
  ⟨(some 93), .mv (.tmp 6), (some (92, false))⟩,
  ⟨(some 94), .mv (.tmp 10), (some (92, false))⟩,
  ⟨(some 95), .mv (.tmp 94), (some (92, false))⟩,
  ⟨(some 96), .mv (.tmp 9), (some (95, true))⟩,
  ⟨(some 97), .pick (.tmp 95) (.tmp 96) (.const (.bool false)), (some (92, false))⟩,
  ⟨(some 98), .beq true (.tmp 93) (.tmp 97), (some (92, false))⟩,
  ⟨(some 99), .pick (.tmp 92) (.const (.bool true)) (.tmp 98), none⟩])
 (.cond (.tmp 99) (.seq (.reg [⟨(some 2), .mv (.const (.bool false)), none⟩])
 (.ret)) (.skip))))
 (.seq (.reg [⟨(some 101), .ld (some 6) (.tmp 3), none⟩,
  ⟨(some 102), .call (.func 13) [(.tmp 101)], none⟩,
  ⟨(some 100), .mv (.tmp 102), none⟩,
  ⟨(some 103), .ext 0 (.tmp 100), none⟩,
  ⟨(some 104), .ext 1 (.tmp 100), none⟩,
  ⟨(some 13), .mv (.tmp 103), none⟩,
  ⟨(some 14), .mv (.tmp 104), none⟩])
 (.seq (.seq (.reg [⟨(some 106), .ld (some 6) (.tmp 3), none⟩,
  ⟨(some 107), .call (.func 14) [(.tmp 106)], none⟩,
  ⟨(some 105), .mv (.tmp 107), none⟩,
  ⟨(some 108), .ext 0 (.tmp 105), none⟩,
  ⟨(some 109), .ext 1 (.tmp 105), none⟩,
  ⟨(some 15), .mv (.tmp 108), none⟩,
  ⟨(some 16), .mv (.tmp 109), none⟩])
 (.seq (.reg [⟨(some 110), .mv (.tmp 14), none⟩,
  ⟨(some 111), .mv (.tmp 16), none⟩,
  ⟨(some 112), .beq true (.tmp 110) (.tmp 111), none⟩,
  ⟨(some 113), .mv (.tmp 112), none⟩,
  ⟨(some 114), .mv (.tmp 14), (some (113, false))⟩,
  ⟨(some 115), .mv (.tmp 10), (some (113, false))⟩,
  ⟨(some 116), .beq true (.tmp 114) (.tmp 115), (some (113, false))⟩,
  ⟨(some 117), .pick (.tmp 113) (.const (.bool true)) (.tmp 116), none⟩,
  ⟨(some 118), .mv (.tmp 117), none⟩,
  ⟨(some 119), .mv (.tmp 13), (some (118, false))⟩,
  ⟨(some 120), .mv (.tmp 15), (some (118, false))⟩,
  ⟨(some 121), .call (.func 15) [(.tmp 119), (.tmp 120)], (some (118, false))⟩,
  ⟨(some 122), .un .not (.tmp 121), (some (118, false))⟩,
  ⟨(some 123), .pick (.tmp 118) (.const (.bool true)) (.tmp 122), none⟩])
 (.cond (.tmp 123) (.seq (.reg [⟨(some 2), .mv (.const (.bool false)), none⟩])
 (.ret)) (.skip))))
 (.seq (.reg [⟨(some 125), .ld (some 6) (.tmp 3), none⟩,
  ⟨(some 126), .call (.func 16) [(.tmp 125)], none⟩,
  ⟨(some 124), .mv (.tmp 126), none⟩,
  ⟨(some 127), .ext 0 (.tmp 124), none⟩,
  ⟨(some 128), .ext 1 (.tmp 124), none⟩,
  ⟨(some 17), .mv (.tmp 127), none⟩,
  ⟨(some 18), .mv (.tmp 128), none⟩])
 (.seq (.seq (.reg [⟨(some 130), .ld (some 6) (.tmp 3), none⟩,
  ⟨(some 131), .call (.func 17) [(.tmp 130)], none⟩,
  ⟨(some 129), .mv (.tmp 131), none⟩,
  ⟨(some 132), .ext 0 (.tmp 129), none⟩,
  ⟨(some 133), .ext 1 (.tmp 129), none⟩,
  ⟨(some 19), .mv (.tmp 132), none⟩,
  ⟨(some 20), .mv (.tmp 133), none⟩])
 (.seq (.reg [⟨(some 134), .mv (.tmp 18), none⟩,
  ⟨(some 135), .mv (.tmp 20), none⟩,
  ⟨(some 136), .beq true (.tmp 134) (.tmp 135), none⟩,
  ⟨(some 137), .mv (.tmp 136), none⟩,
  ⟨(some 138), .mv (.tmp 18), (some (137, false))⟩,
  ⟨(some 139), .mv (.tmp 10), (some (137, false))⟩,
  ⟨(some 140), .beq true (.tmp 138) (.tmp 139), (some (137, false))⟩,
  ⟨(some 141), .pick (.tmp 137) (.const (.bool true)) (.tmp 140), none⟩,
  ⟨(some 142), .mv (.tmp 141), none⟩,
  ⟨(some 143), .mv (.tmp 17), (some (142, false))⟩,
  ⟨(some 144), .mv (.tmp 19), (some (142, false))⟩,
  ⟨(some 145), .call (.func 18) [(.tmp 143), (.tmp 144)], (some (142, false))⟩,
  ⟨(some 146), .un .not (.tmp 145), (some (142, false))⟩,
  ⟨(some 147), .pick (.tmp 142) (.const (.bool true)) (.tmp 146), none⟩])
 (.cond (.tmp 147) (.seq (.reg [⟨(some 2), .mv (.const (.bool false)), none⟩])
 (.ret)) (.skip))))
 (.seq (.reg [⟨(some 149), .ld (some 6) (.tmp 3), none⟩,
  ⟨(some 150), .call (.func 19) [(.tmp 149)], none⟩,
  ⟨(some 148), .mv (.tmp 150), none⟩,
  ⟨(some 151), .ext 0 (.tmp 148), none⟩,
  ⟨(some 152), .ext 1 (.tmp 148), none⟩,
  ⟨(some 153), .ext 2 (.tmp 148), none⟩,
  ⟨(some 21), .mv (.tmp 151), none⟩,
  ⟨(some 22), .mv (.tmp 152), none⟩,
  ⟨(some 23), .mv (.tmp 153), none⟩])
 (.seq (.seq (.reg [⟨(some 155), .ld (some 6) (.tmp 3), none⟩,
  ⟨(some 156), .call (.func 20) [(.tmp 155)], none⟩,
  ⟨(some 154), .mv (.tmp 156), none⟩,
  ⟨(some 157), .ext 0 (.tmp 154), none⟩,
  ⟨(some 158), .ext 1 (.tmp 154), none⟩,
  ⟨(some 159), .ext 2 (.tmp 154), none⟩,
  ⟨(some 24), .mv (.tmp 157), none⟩,
  ⟨(some 25), .mv (.tmp 158), none⟩,
  ⟨(some 26), .mv (.tmp 159), none⟩])
 (.seq (.reg [⟨(some 160), .mv (.tmp 21), none⟩,
  ⟨(some 161), .mv (.tmp 24), none⟩,
  ⟨(some 162), .bin .neq (.tmp 160) (.tmp 161), none⟩,
  ⟨(some 163), .mv (.tmp 162), none⟩,
  ⟨(some 164), .mv (.tmp 22), (some (163, false))⟩,
  ⟨(some 165), .mv (.tmp 25), (some (163, false))⟩,
  ⟨(some 166), .bin .neq (.tmp 164) (.tmp 165), (some (163, false))⟩,
  ⟨(some 167), .pick (.tmp 163) (.const (.bool true)) (.tmp 166), none⟩,
  ⟨(some 168), .mv (.tmp 167), none⟩,
  ⟨(some 169), .mv (.tmp 23), (some (168, false))⟩,
  ⟨(some 170), .mv (.tmp 26), (some (168, false))⟩,
  ⟨(some 171), .beq true (.tmp 169) (.tmp 170), (some (168, false))⟩,
  ⟨(some 172), .pick (.tmp 168) (.const (.bool true)) (.tmp 171), none⟩,
  ⟨(some 173), .mv (.tmp 172), none⟩,
  ⟨(some 174), .mv (.tmp 23), (some (173, false))⟩,
  ⟨(some 175), .mv (.tmp 10), (some (173, false))⟩,
  ⟨(some 176), .beq true (.tmp 174) (.tmp 175), (some (173, false))⟩,
  ⟨(some 177), .pick (.tmp 173) (.const (.bool true)) (.tmp 176), none⟩])
 (.cond (.tmp 177) (.seq (.reg [⟨(some 2), .mv (.const (.bool false)), none⟩])
 (.ret)) (.skip))))
 (.seq (.seq (.reg [⟨(some 178), .mv (.tmp 10), none⟩,
  ⟨(some 179), .un .not (.tmp 178), none⟩])
 (.cond (.tmp 179) (.seq (.reg [⟨(some 2), .mv (.const (.bool true)), none⟩])
 (.ret)) (.skip)))
 (.seq (.reg [⟨(some 181), .ld (some 6) (.tmp 3), none⟩,
  ⟨(some 182), .mv (.tmp 17), none⟩,
  ⟨(some 183), .call (.func 7) [(.tmp 181), (.tmp 182)], none⟩,
  ⟨(some 180), .mv (.tmp 183), none⟩,
  ⟨(some 184), .ext 0 (.tmp 180), none⟩,
  ⟨(some 185), .ext 1 (.tmp 180), none⟩,
  ⟨(some 27), .mv (.tmp 184), none⟩,
  ⟨(some 28), .mv (.tmp 185), none⟩])
 (.seq (.seq (.reg [⟨(some 186), .mv (.tmp 28), none⟩,
  ⟨(some 187), .un .not (.tmp 186), none⟩,
  ⟨(some 188), .mv (.tmp 187), none⟩,
  ⟨(some 189), .mv (.tmp 27), (some (188, false))⟩,
  ⟨(some 190), .mv (.tmp 13), (some (188, false))⟩,
  ⟨(some 191), .iad 1 (.tmp 190) (.const (.int .i64 0)), (some (188, false))⟩,
  ⟨(some 192), .ld none (.tmp 191), (some (188, false))⟩,
  ⟨(some 193), .call (.func 9) [(.tmp 189), (.tmp 192)], (some (188, false))⟩,
  ⟨(some 194), .un .not (.tmp 193), (some (188, false))⟩,
  ⟨(some 195), .pick (.tmp 188) (.const (.bool true)) (.tmp 194), none⟩])
 (.cond (.tmp 195) (.seq (.reg [⟨(some 2), .mv (.const (.bool false)), none⟩])
 (.ret)) (.skip)))
 (.seq (.seq (.reg [⟨(some 29), .mv (.const (.int .i64 0)), none⟩])
 (.block 0 (.loop (.seq (.seq (.reg [⟨(some 196), .mv (.tmp 6), none⟩,
  ⟨(some 197), .mv (.tmp 196), none⟩,
  ⟨(some 198), .mv (.tmp 29), (some (197, true))⟩,
  ⟨(some 199), .mv (.tmp 5), (some (197, true))⟩,
  ⟨(some 200), .len (.tmp 199), (some (197, true))⟩,
  ⟨(some 201), .bin .lss (.tmp 198) (.tmp 200), (some (197, true))⟩,
  ⟨(some 202), .pick (.tmp 197) (.tmp 201) (.const (.bool false)), none⟩])
 (.cond (.tmp 202) (.skip) (.exit 0)))
 (.seq (.block 1 (.seq (.reg [⟨(some 205), .mv (.tmp 5), none⟩,
  ⟨(some 206), .mv (.tmp 29), none⟩,
  ⟨(some 207), .iad 1 (.tmp 205) (.tmp 206), none⟩,
  ⟨(some 208), .ld none (.tmp 207), none⟩,
  ⟨(some 209), .mv (.tmp 27), none⟩,
  ⟨(some 210), .mv (.tmp 29), none⟩,
  ⟨(some 211), .iad 1 (.tmp 209) (.tmp 210), none⟩,
  ⟨(some 212), .ld none (.tmp 211), none⟩,
  ⟨(some 213), .bin .lss (.tmp 208) (.tmp 212), none⟩])
 (.cond (.tmp 213) (.seq (.reg [⟨(some 2), .mv (.const (.bool false)), none⟩])
 (.ret)) (.skip))))
 (.reg [⟨(some 203), .mv (.tmp 29), none⟩,
  ⟨(some 204), .bin .add (.tmp 203) (.const (.int .i64 1)), none⟩,
  ⟨(some 29), .mv (.tmp 204), none⟩]))))))
 (.seq (.reg [⟨(some 214), .mv (.tmp 22), none⟩,
  ⟨(some 30), .mv (.tmp 214), none⟩])
 (.seq (.seq (.reg [⟨(some 31), .mv (.const (.int .i64 0)), none⟩])
 (.block 2 (.loop (.seq (.seq (.reg [⟨(some 215), .mv (.tmp 31), none⟩,
  ⟨(some 216), .fad 0 (.tmp 3), none⟩,
  ⟨(some 217), .ld none (.tmp 216), none⟩,
  ⟨(some 218), .bin .lss (.tmp 215) (.tmp 217), none⟩])
 (.cond (.tmp 218) (.skip) (.exit 2)))
 (.seq (.block 3 (.seq (.reg [⟨(some 222), .mv (.tmp 13), none⟩,
  ⟨(some 223), .mv (.tmp 31), none⟩,
  ⟨(some 224), .iad 1 (.tmp 222) (.tmp 223), none⟩,
  ⟨(some 225), .ld none (.tmp 224), none⟩,
  ⟨(some 226), .fad 2 (.tmp 3), none⟩,
  ⟨(some 227), .ld none (.tmp 226), none⟩,
  ⟨(some 228), .mv (.tmp 30), none⟩,
  ⟨(some 229), .bin .mul (.tmp 227) (.tmp 228), none⟩,
  ⟨(some 230), .rcall (.func 21) [(.tmp 225), (.tmp 229)], none⟩,
  ⟨(some 221), .mv (.tmp 230), none⟩,
  ⟨(some 231), .ext 0 (.tmp 221), none⟩,
  ⟨(some 232), .ext 1 (.tmp 221), none⟩,
  ⟨(some 32), .mv (.tmp 231), none⟩,
  ⟨(some 33), .mv (.tmp 232), none⟩])
 (.seq (.seq (.reg [⟨(some 234), .mv (.tmp 13), none⟩,
  ⟨(some 235), .mv (.tmp 31), none⟩,
  ⟨(some 236), .iad 1 (.tmp 234) (.tmp 235), none⟩,
  ⟨(some 237), .ld none (.tmp 236), none⟩,
  ⟨(some 238), .fad 2 (.tmp 3), none⟩,
  ⟨(some 239), .ld none (.tmp 238), none⟩,
  ⟨(some 240), .mv (.tmp 30), none⟩,
  ⟨(some 241), .bin .mul (.tmp 239) (.tmp 240), none⟩,
  ⟨(some 242), .rcall (.func 22) [(.tmp 237), (.tmp 241)], none⟩,
  ⟨(some 233), .mv (.tmp 242), none⟩,
  ⟨(some 243), .ext 0 (.tmp 233), none⟩,
  ⟨(some 244), .ext 1 (.tmp 233), none⟩,
  ⟨(some 34), .mv (.tmp 243), none⟩,
  ⟨(some 35), .mv (.tmp 244), none⟩])
 (.seq (.reg [⟨(some 245), .mv (.tmp 32), none⟩,
  ⟨(some 246), .mv (.tmp 34), none⟩,
  ⟨(some 247), .beq true (.tmp 245) (.tmp 246), none⟩,
  ⟨(some 248), .mv (.tmp 247), none⟩,
  ⟨(some 249), .mv (.tmp 33), (some (248, false))⟩,
  ⟨(some 250), .un .not (.tmp 249), (some (248, false))⟩,
  ⟨(some 251), .pick (.tmp 248) (.const (.bool true)) (.tmp 250), none⟩,
  ⟨(some 252), .mv (.tmp 251), none⟩,
  ⟨(some 253), .mv (.tmp 35), (some (252, false))⟩,
  ⟨(some 254), .un .not (.tmp 253), (some (252, false))⟩,
  ⟨(some 255), .pick (.tmp 252) (.const (.bool true)) (.tmp 254), none⟩,
  ⟨(some 256), .mv (.tmp 255), none⟩,
  ⟨(some 257), .mv (.tmp 32), (some (256, false))⟩,
  ⟨(some 258), .un .not (.tmp 257), (some (256, false))⟩,
  ⟨(some 259), .pick (.tmp 256) (.const (.bool true)) (.tmp 258), none⟩])
 (.cond (.tmp 259) (.seq (.reg [⟨(some 2), .mv (.const (.bool false)), none⟩])
 (.ret)) (.skip))))
 (.seq (.seq (.reg [⟨(some 260), .fad 2 (.tmp 3), none⟩,
  ⟨(some 261), .ld none (.tmp 260), none⟩,
  ⟨(some 262), .bin .eql (.tmp 261) (.const (.int .i64 0)), none⟩,
  ⟨(some 263), .mv (.tmp 262), none⟩,
  ⟨(some 264), .mv (.tmp 17), (some (263, true))⟩,
  ⟨(some 265), .mv (.tmp 31), (some (263, true))⟩,
  ⟨(some 266), .iad 2 (.tmp 264) (.tmp 265), (some (263, true))⟩,
  ⟨(some 267), .iada 1 2 (.tmp 266) (.const (.int .i64 0)), (some (263, true))⟩,
  ⟨(some 268), .ld none (.tmp 267), (some (263, true))⟩,
  ⟨(some 269), .mv (.tmp 17), (some (263, true))⟩,
  ⟨(some 270), .mv (.tmp 31), (some (263, true))⟩,
  ⟨(some 271), .iad 2 (.tmp 269) (.tmp 270), (some (263, true))⟩,
  ⟨(some 272), .iada 1 2 (.tmp 271) (.const (.int .i64 1)), (some (263, true))⟩,
  ⟨(some 273), .ld none (.tmp 272), (some (263, true))⟩,
  ⟨(some 274), .bin .neq (.tmp 268) (.tmp 273), (some (263, true))⟩,
  ⟨(some 275), .pick (.tmp 263) (.tmp 274) (.const (.bool false)), none⟩])
 (.cond (.tmp 275) (.seq (.reg [⟨(some 2), .mv (.const (.bool false)), none⟩])
 (.ret)) (.skip)))
 (.reg [⟨(some 276), .mv (.tmp 30), none⟩,
  ⟨(some 277), .mv (.tmp 21), none⟩,
  ⟨(some 278), .bin .quo (.tmp 276) (.tmp 277), none⟩,
  ⟨(some 30), .mv (.tmp 278), none⟩])))))
 (.reg [⟨(some 219), .mv (.tmp 31), none⟩,
  ⟨(some 220), .bin .add (.tmp 219) (.const (.int .i64 1)), none⟩,
  ⟨(some 31), .mv (.tmp 220), none⟩]))))))
 (.seq (.reg [⟨(some 280), .ld (some 6) (.tmp 3), none⟩,
  ⟨(some 281), .mv (.tmp 13), none⟩,
  ⟨(some 282), .call (.func 23) [(.tmp 280), (.tmp 281)], none⟩,
  ⟨(some 279), .mv (.tmp 282), none⟩,
  ⟨(some 283), .ext 0 (.tmp 279), none⟩,
  ⟨(some 284), .ext 1 (.tmp 279), none⟩,
  ⟨(some 36), .mv (.tmp 283), none⟩,
  ⟨(some 37), .mv (.tmp 284), none⟩])
 (.seq (.reg [⟨(some 285), .mv (.tmp 37), none⟩,
  ⟨(some 286), .mv (.tmp 285), none⟩,
  ⟨(some 287), .mv (.tmp 36), (some (286, true))⟩,
  ⟨(some 288), .pick (.tmp 286) (.tmp 287) (.const (.bool false)), none⟩,
  ⟨(some 2), .mv (.tmp 288), none⟩])
 (.ret)))))))))))))))))))))
def r_laws_FnWorths : List ARes := [.tmp 2]
theorem ok_laws_FnWorths : FnOk Try.prog 3 289 c_laws_FnWorths r_laws_FnWorths := ⟨⟨Try.f3, _, Try.func3, by kernel_rfl, rfl, rfl, by kernel_rfl, by kernel_rfl⟩⟩
end Go.Proofs.Ytbchcbhleldhiaa.Ab
end
section
namespace Go.Proofs.Ytbchcbhleldhiaa.Ab
open Go Go.RowKit
set_option linter.unusedVariables false
set_option linter.unusedSimpArgs false
set_option maxRecDepth 100000
set_option maxHeartbeats 16000000 in
theorem law_FnWorths (l : List Int) (hb : ∀ x ∈ l, 0 ≤ x ∧ x ≤ 255) :
    AC Try.prog 3 [.slice (some ⟨0, 0, none⟩) l.length 0] [⟨.ro, 5, l.map (Value.int .u8)⟩] fun r _ => r = .bool true := by
  refine ac_of_run mixed ok_laws_FnWorths (by simp) (go_start _ _ _ ?_)
  simp (config := {implicitDefEqProofs := false, maxDischargeDepth := 20}) (disch := first | omega | (simp only [lenE]; done) | (simp only [lenE]; omega) | rfl | (simp only [lenE, markR_len]; done) | (simp only [lenE, markR_len]; omega)) only [runE, mapE, listE, initT_5, initT_6, initT_7, initT_8, resV, oneV, binA, unA, reduceCtorEq, Nat.reduceEqDiff, Nat.reduceAdd, Nat.reduceLT, Nat.reduceLeDiff, Nat.reduceMul, Nat.reduceSub, ↓reduceIte, decide_true, decide_false, Bool.true_eq_false, Bool.false_eq_true, Bool.not_true, Bool.not_false, if_true, if_false, and_true, true_and, memE, celE, w64, Nat.zero_add, Nat.add_zero, Nat.mul_one, putL, and_self, ldn, c_laws_FnWorths, r_laws_FnWorths]
  refine callH_rc (rBig_rc _ 0 0 l.length) ?_
  rintro r new ⟨rfl, rfl⟩
  by_cases hbig : 65536 < l.length
  · simp (config := {implicitDefEqProofs := false, maxDischargeDepth := 20}) (disch := first | omega | (simp only [lenE]; done) | (simp only [lenE]; omega) | rfl | (simp only [lenE, markR_len]; done) | (simp only [lenE, markR_len]; omega)) only [runE, mapE, listE, initT_5, initT_6, initT_7, initT_8, resV, oneV, binA, unA, reduceCtorEq, Nat.reduceEqDiff, Nat.reduceAdd, Nat.reduceLT, Nat.reduceLeDiff, Nat.reduceMul, Nat.reduceSub, ↓reduceIte, decide_true, decide_false, Bool.true_eq_false, Bool.false_eq_true, Bool.not_true, Bool.not_false, if_true, if_false, and_true, true_and, memE, celE, w64, Nat.zero_add, Nat.add_zero, Nat.mul_one, putL, and_self, ldn, decide_eq_true hbig]
  have hB : BytesA [⟨.ro, 5, l.map (Value.int .u8)⟩] 0 l := ⟨⟨.ro, by simp, rfl⟩, hb, by omega⟩
  obtain ⟨M0, hM0⟩ : ∃ M : Mem, M = [⟨.ro, 5, l.map (Value.int .u8)⟩] := ⟨_, rfl⟩
  rw [← hM0] at hB
  rw [List.append_nil, ← hM0]
  clear hM0
  simp (config := {implicitDefEqProofs := false, maxDischargeDepth := 20}) (disch := first | omega | (simp only [lenE]; done) | (simp only [lenE]; omega) | rfl | (simp only [lenE, markR_len]; done) | (simp only [lenE, markR_len]; omega)) only [runE, mapE, listE, initT_5, initT_6, initT_7, initT_8, resV, oneV, binA, unA, reduceCtorEq, Nat.reduceEqDiff, Nat.reduceAdd, Nat.reduceLT, Nat.reduceLeDiff, Nat.reduceMul, Nat.reduceSub, ↓reduceIte, decide_true, decide_false, Bool.true_eq_false, Bool.false_eq_true, Bool.not_true, Bool.not_false, if_true, if_false, and_true, true_and, memE, celE, w64, Nat.zero_add, Nat.add_zero, Nat.mul_one, putL, and_self, ldn, decide_eq_false hbig]
  refine callH_rc (DrawPolicyWorth_rc _ 0 0 l hB) ?_
  rintro r new ⟨nr, p, u, v, L, rfl, pl, ql⟩
  have hu := pl.here
  have hv := ql.here
  have on := ones_proc hu
  obtain ⟨M1, hM1⟩ : ∃ M, M = M0 ++ new := ⟨_, rfl⟩
  rw [← hM1] at hu hv ⊢
  clear hM1 pl ql nr hB
  have s1 : stA (M1 ++ [(⟨.own, 26, [.int .i64 0, .slice none 0 0, .int .i64 0, .int .i64 0, .int .i64 0, .int .i64 0]⟩ : Blk)]) M1.length 0 (procC p u) = some (M1 ++ [⟨.own, 26, procC p u⟩]) := by
    rw [(OwnB.here rfl).st (by simp) on]
    simp [putL]
  have x1 : OwnB (M1 ++ [(⟨.own, 26, procC p u⟩ : Blk)]) M1.length 26 (procC p u) := OwnB.here rfl
  have u1 := hu.ext [(⟨.own, 26, procC p u⟩ : Blk)]
  have v1 := hv.ext [(⟨.own, 26, procC p u⟩ : Blk)]
  simp (config := {implicitDefEqProofs := false, maxDischargeDepth := 20}) (disch := first | omega | (simp only [lenE]; done) | (simp only [lenE]; omega) | rfl | (simp only [lenE, markR_len]; done) | (simp only [lenE, markR_len]; omega)) only [runE, mapE, listE, initT_5, initT_6, initT_7, initT_8, resV, oneV, binA, unA, reduceCtorEq, Nat.reduceEqDiff, Nat.reduceAdd, Nat.reduceLT, Nat.reduceLeDiff, Nat.reduceMul, Nat.reduceSub, ↓reduceIte, decide_true, decide_false, Bool.true_eq_false, Bool.false_eq_true, Bool.not_true, Bool.not_false, if_true, if_false, and_true, true_and, memE, celE, w64, Nat.zero_add, Nat.add_zero, Nat.mul_one, putL, and_self, ldn, ext_2_0, ext_2_1, stP_aggL, s1]
  clear s1 hu hv on
  generalize M1 ++ [(⟨.own, 26, procC p u⟩ : Blk)] = M at *
  generalize M1.length = bd at *
  obtain ⟨K, hK⟩ : ∃ K : Mem → Prop, K = fun M => IntsA M u p.w ∧ OwnB M bd 26 (procC p u) ∧ PairsA M v L := ⟨_, rfl⟩
  have K0 : K M := by rw [hK]; exact ⟨u1, x1, v1⟩
  have Kx : ∀ {M : Mem} (new : Mem), K M → K (M ++ new) := fun {M} new h => by
    rw [hK] at h ⊢
    exact ⟨h.1.ext _, h.2.1.ext _, h.2.2.ext _⟩
  have kP : ∀ {M}, K M → ProcA M (procV p u) p := fun h => by rw [hK] at h; exact ⟨u, rfl, h.1⟩
  have kR : ∀ {M}, K M → ∀ j, rdc M bd j = (procC p u)[j]? := fun h j => by rw [hK] at h; exact h.2.1.rd j
  have kV : ∀ {M}, K M → PairsA M v L := fun h => by rw [hK] at h; exact h.2.2
  clear hK u1 v1 x1
  obtain ⟨lw, hlw⟩ : ∃ t, t = worthA p L := ⟨_, rfl⟩
  obtain ⟨tb, htb⟩ : ∃ t, t = (if p.good then p.tab p.bestC p.turns.toNat else []) := ⟨_, rfl⟩
  obtain ⟨lv, hlv⟩ : ∃ t, t = levelsA p := ⟨_, rfl⟩
  obtain ⟨xw, hxw⟩ : ∃ t, t = (if p.good then p.whole else 0) := ⟨_, rfl⟩
  obtain ⟨yw, hyw⟩ : ∃ t, t = (if p.good then p.pow p.turns.toNat else 0) := ⟨_, rfl⟩
  obtain ⟨gd, hgd⟩ : ∃ t, t = p.good := ⟨_, rfl⟩
  obtain ⟨pb, hpb⟩ : ∃ t, t = (p.good && p.polB L) := ⟨_, rfl⟩
  have C1 : ∀ M, K M → RC Try.prog 7 [procV p u, v] M (AnsO M (IntsO lw) fun w => .tuple #[w, .bool pb]) := fun M h => by rw [hlw, hpb]; exact implPolicyWorth_rc _ _ _ p L (kP h) (kV h)
  have C2 : ∀ M, K M → RC Try.prog 8 [procV p u, v] M (AnsO M (IntsO lw) fun w => .tuple #[w, .bool pb]) := fun M h => by rw [hlw, hpb]; exact specPolicyWorth_rc _ _ _ p L (kP h) (kV h)
  have C3 : ∀ M, K M → RC Try.prog 10 [procV p u, v] M (AnsV (.tuple #[.bool pb, .bool gd])) := fun M h => by rw [hpb, hgd]; exact implIsPolicy_rc _ _ _ p L (kP h) (kV h)
  have C4 : ∀ M, K M → RC Try.prog 11 [procV p u, v] M (AnsV (.tuple #[.bool pb, .bool gd])) := fun M h => by rw [hpb, hgd]; exact specIsPolicy_rc _ _ _ p L (kP h) (kV h)
  have C5 : ∀ M, K M → RC Try.prog 12 [procV p u] M (AnsV (.bool gd)) := fun M h => by rw [hgd]; exact implIsProcess_rc _ _ p (kP h)
  have C6 : ∀ M, K M → RC Try.prog 13 [procV p u] M (AnsO M (TabO tb) fun w => .tuple #[w, .bool gd]) := fun M h => by rw [htb, hgd]; exact implWorthTable_rc _ _ p (kP h)
  have C7 : ∀ M, K M → RC Try.prog 14 [procV p u] M (AnsO M (TabO tb) fun w => .tuple #[w, .bool gd]) := fun M h => by rw [htb, hgd]; exact specWorthTable_rc _ _ p (kP h)
  have C8 : ∀ M, K M → RC Try.prog 16 [procV p u] M (AnsO M (PairsO 46 lv) fun w => .tuple #[w, .bool gd]) := fun M h => by rw [hlv, hgd]; exact implBestLevels_rc _ _ p (kP h)
  have C9 : ∀ M, K M → RC Try.prog 17 [procV p u] M (AnsO M (PairsO 46 lv) fun w => .tuple #[w, .bool gd]) := fun M h => by rw [hlv, hgd]; exact specBestLevels_rc _ _ p (kP h)
  have Ca : ∀ M, K M → RC Try.prog 19 [procV p u] M (AnsV (.tuple #[.int .i64 xw, .int .i64 yw, .bool gd])) := fun M h => by rw [hxw, hyw, hgd]; exact implWholeOf_rc _ _ p (kP h)
  have Cb : ∀ M, K M → RC Try.prog 20 [procV p u] M (AnsV (.tuple #[.int .i64 xw, .int .i64 yw, .bool gd])) := fun M h => by rw [hxw, hyw, hgd]; exact specWholeOf_rc _ _ p (kP h)
  cases gd with
  | false =>
    as_aux_lemma =>
    have hpb' : pb = false := by rw [hpb, ← hgd]; rfl
    clear hpb
    subst hpb'
    refine callH_rc (C1 _ K0) ?_
    rintro r new ⟨nr, Rv, rfl, hw⟩
    have Rn := IntsO.in hw.now
    clear hw
    have K1 := Kx new K0
    obtain ⟨N1, hN1⟩ : ∃ N, N = M ++ new := ⟨_, rfl⟩
    rw [← hN1] at K1 Rn ⊢
    clear hN1 K0
    have R1 := Rn
    clear Rn nr
    simp (config := {implicitDefEqProofs := false, maxDischargeDepth := 20}) (disch := first | omega | (simp only [lenE]; done) | (simp only [lenE]; omega) | rfl | (simp only [lenE, markR_len]; done) | (simp only [lenE, markR_len]; omega)) only [runE, mapE, listE, initT_5, initT_6, initT_7, initT_8, resV, oneV, binA, unA, reduceCtorEq, Nat.reduceEqDiff, Nat.reduceAdd, Nat.reduceLT, Nat.reduceLeDiff, Nat.reduceMul, Nat.reduceSub, ↓reduceIte, decide_true, decide_false, Bool.true_eq_false, Bool.false_eq_true, Bool.not_true, Bool.not_false, if_true, if_false, and_true, true_and, memE, celE, w64, Nat.zero_add, Nat.add_zero, Nat.mul_one, putL, and_self, ldn, kR K1, ext_2_0, ext_2_1, ext_3_0, ext_3_1, ext_3_2, bne_self_eq_false, beq_self_eq_true, goG_undef, Bool.not_true, Bool.not_false]
    refine callH_rc (C2 _ K1) ?_
    rintro r new ⟨nr, Sv, rfl, hw⟩
    have Sn := IntsO.in hw.now
    clear hw
    have K2 := Kx new K1
    have R2 := R1.ext new
    obtain ⟨N2, hN2⟩ : ∃ N, N = N1 ++ new := ⟨_, rfl⟩
    rw [← hN2] at K2 R2 Sn ⊢
    clear hN2 R1 K1
    have S2 := Sn
    clear Sn nr
    simp (config := {implicitDefEqProofs := false, maxDischargeDepth := 20}) (disch := first | omega | (simp only [lenE]; done) | (simp only [lenE]; omega) | rfl | (simp only [lenE, markR_len]; done) | (simp only [lenE, markR_len]; omega)) only [runE, mapE, listE, initT_5, initT_6, initT_7, initT_8, resV, oneV, binA, unA, reduceCtorEq, Nat.reduceEqDiff, Nat.reduceAdd, Nat.reduceLT, Nat.reduceLeDiff, Nat.reduceMul, Nat.reduceSub, ↓reduceIte, decide_true, decide_false, Bool.true_eq_false, Bool.false_eq_true, Bool.not_true, Bool.not_false, if_true, if_false, and_true, true_and, memE, celE, w64, Nat.zero_add, Nat.add_zero, Nat.mul_one, putL, and_self, ldn, kR K2, ext_2_0, ext_2_1, ext_3_0, ext_3_1, ext_3_2, bne_self_eq_false, beq_self_eq_true, goG_undef, Bool.not_true, Bool.not_false]
    refine callH_rc (rInts_rc _ _ _ lw R2 S2) ?_
    rintro r new ⟨rfl, rfl⟩
    rw [List.append_nil]
    simp (config := {implicitDefEqProofs := false, maxDischargeDepth := 20}) (disch := first | omega | (simp only [lenE]; done) | (simp only [lenE]; omega) | rfl | (simp only [lenE, markR_len]; done) | (simp only [lenE, markR_len]; omega)) only [runE, mapE, listE, initT_5, initT_6, initT_7, initT_8, resV, oneV, binA, unA, reduceCtorEq, Nat.reduceEqDiff, Nat.reduceAdd, Nat.reduceLT, Nat.reduceLeDiff, Nat.reduceMul, Nat.reduceSub, ↓reduceIte, decide_true, decide_false, Bool.true_eq_false, Bool.false_eq_true, Bool.not_true, Bool.not_false, if_true, if_false, and_true, true_and, memE, celE, w64, Nat.zero_add, Nat.add_zero, Nat.mul_one, putL, and_self, ldn, kR K2, ext_2_0, ext_2_1, ext_3_0, ext_3_1, ext_3_2, bne_self_eq_false, beq_self_eq_true, goG_undef, Bool.not_true, Bool.not_false]
    clear S2
    refine callH_rc (C3 _ K2) ?_
    rintro r new ⟨rfl, nr⟩
    have K3 := Kx new K2
    have R3 := R2.ext new
    obtain ⟨N3, hN3⟩ : ∃ N, N = N2 ++ new := ⟨_, rfl⟩
    rw [← hN3] at K3 R3 ⊢
    clear hN3 R2 K2
    clear nr
    simp (config := {implicitDefEqProofs := false, maxDischargeDepth := 20}) (disch := first | omega | (simp only [lenE]; done) | (simp only [lenE]; omega) | rfl | (simp only [lenE, markR_len]; done) | (simp only [lenE, markR_len]; omega)) only [runE, mapE, listE, initT_5, initT_6, initT_7, initT_8, resV, oneV, binA, unA, reduceCtorEq, Nat.reduceEqDiff, Nat.reduceAdd, Nat.reduceLT, Nat.reduceLeDiff, Nat.reduceMul, Nat.reduceSub, ↓reduceIte, decide_true, decide_false, Bool.true_eq_false, Bool.false_eq_true, Bool.not_true, Bool.not_false, if_true, if_false, and_true, true_and, memE, celE, w64, Nat.zero_add, Nat.add_zero, Nat.mul_one, putL, and_self, ldn, kR K3, ext_2_0, ext_2_1, ext_3_0, ext_3_1, ext_3_2, bne_self_eq_false, beq_self_eq_true, goG_undef, Bool.not_true, Bool.not_false]
    refine callH_rc (C4 _ K3) ?_
    rintro r new ⟨rfl, nr⟩
    have K4 := Kx new K3
    have R4 := R3.ext new
    obtain ⟨N4, hN4⟩ : ∃ N, N = N3 ++ new := ⟨_, rfl⟩
    rw [← hN4] at K4 R4 ⊢
    clear hN4 R3 K3
    clear nr
    simp (config := {implicitDefEqProofs := false, maxDischargeDepth := 20}) (disch := first | omega | (simp only [lenE]; done) | (simp only [lenE]; omega) | rfl | (simp only [lenE, markR_len]; done) | (simp only [lenE, markR_len]; omega)) only [runE, mapE, listE, initT_5, initT_6, initT_7, initT_8, resV, oneV, binA, unA, reduceCtorEq, Nat.reduceEqDiff, Nat.reduceAdd, Nat.reduceLT, Nat.reduceLeDiff, Nat.reduceMul, Nat.reduceSub, ↓reduceIte, decide_true, decide_false, Bool.true_eq_false, Bool.false_eq_true, Bool.not_true, Bool.not_false, if_true, if_false, and_true, true_and, memE, celE, w64, Nat.zero_add, Nat.add_zero, Nat.mul_one, putL, and_self, ldn, kR K4, ext_2_0, ext_2_1, ext_3_0, ext_3_1, ext_3_2, bne_self_eq_false, beq_self_eq_true, goG_undef, Bool.not_true, Bool.not_false]
    refine callH_rc (C5 _ K4) ?_
    rintro r new ⟨rfl, nr⟩
    have K5 := Kx new K4
    have R5 := R4.ext new
    obtain ⟨N5, hN5⟩ : ∃ N, N = N4 ++ new := ⟨_, rfl⟩
    rw [← hN5] at K5 R5 ⊢
    clear hN5 R4 K4
    clear nr
    simp (config := {implicitDefEqProofs := false, maxDischargeDepth := 20}) (disch := first | omega | (simp only [lenE]; done) | (simp only [lenE]; omega) | rfl | (simp only [lenE, markR_len]; done) | (simp only [lenE, markR_len]; omega)) only [runE, mapE, listE, initT_5, initT_6, initT_7, initT_8, resV, oneV, binA, unA, reduceCtorEq, Nat.reduceEqDiff, Nat.reduceAdd, Nat.reduceLT, Nat.reduceLeDiff, Nat.reduceMul, Nat.reduceSub, ↓reduceIte, decide_true, decide_false, Bool.true_eq_false, Bool.false_eq_true, Bool.not_true, Bool.not_false, if_true, if_false, and_true, true_and, memE, celE, w64, Nat.zero_add, Nat.add_zero, Nat.mul_one, putL, and_self, ldn, kR K5, ext_2_0, ext_2_1, ext_3_0, ext_3_1, ext_3_2, bne_self_eq_false, beq_self_eq_true, goG_undef, Bool.not_true, Bool.not_false]
    refine callH_rc (C6 _ K5) ?_
    rintro r new ⟨nr, Tv, rfl, hw⟩
    have Tn := TabO.in hw.now
    clear hw
    have K6 := Kx new K5
    have R6 := R5.ext new
    obtain ⟨N6, hN6⟩ : ∃ N, N = N5 ++ new := ⟨_, rfl⟩
    rw [← hN6] at K6 R6 Tn ⊢
    clear hN6 R5 K5
    have T6 := Tn
    clear Tn nr
    simp (config := {implicitDefEqProofs := false, maxDischargeDepth := 20}) (disch := first | omega | (simp only [lenE]; done) | (simp only [lenE]; omega) | rfl | (simp only [lenE, markR_len]; done) | (simp only [lenE, markR_len]; omega)) only [runE, mapE, listE, initT_5, initT_6, initT_7, initT_8, resV, oneV, binA, unA, reduceCtorEq, Nat.reduceEqDiff, Nat.reduceAdd, Nat.reduceLT, Nat.reduceLeDiff, Nat.reduceMul, Nat.reduceSub, ↓reduceIte, decide_true, decide_false, Bool.true_eq_false, Bool.false_eq_true, Bool.not_true, Bool.not_false, if_true, if_false, and_true, true_and, memE, celE, w64, Nat.zero_add, Nat.add_zero, Nat.mul_one, putL, and_self, ldn, kR K6, ext_2_0, ext_2_1, ext_3_0, ext_3_1, ext_3_2, bne_self_eq_false, beq_self_eq_true, goG_undef, Bool.not_true, Bool.not_false]
    refine callH_rc (C7 _ K6) ?_
    rintro r new ⟨nr, Uv, rfl, hw⟩
    have Un := TabO.in hw.now
    clear hw
    have K7 := Kx new K6
    have R7 := R6.ext new
    have T7 := T6.ext new
    obtain ⟨N7, hN7⟩ : ∃ N, N = N6 ++ new := ⟨_, rfl⟩
    rw [← hN7] at K7 R7 T7 Un ⊢
    clear hN7 R6 T6 K6
    have U7 := Un
    clear Un nr
    simp (config := {implicitDefEqProofs := false, maxDischargeDepth := 20}) (disch := first | omega | (simp only [lenE]; done) | (simp only [lenE]; omega) | rfl | (simp only [lenE, markR_len]; done) | (simp only [lenE, markR_len]; omega)) only [runE, mapE, listE, initT_5, initT_6, initT_7, initT_8, resV, oneV, binA, unA, reduceCtorEq, Nat.reduceEqDiff, Nat.reduceAdd, Nat.reduceLT, Nat.reduceLeDiff, Nat.reduceMul, Nat.reduceSub, ↓reduceIte, decide_true, decide_false, Bool.true_eq_false, Bool.false_eq_true, Bool.not_true, Bool.not_false, if_true, if_false, and_true, true_and, memE, celE, w64, Nat.zero_add, Nat.add_zero, Nat.mul_one, putL, and_self, ldn, kR K7, ext_2_0, ext_2_1, ext_3_0, ext_3_1, ext_3_2, bne_self_eq_false, beq_self_eq_true, goG_undef, Bool.not_true, Bool.not_false]
    refine callH_rc (rTable_rc _ _ _ tb T7 U7) ?_
    rintro r new ⟨rfl, nr⟩
    have K8 := Kx new K7
    have R8 := R7.ext new
    have T8 := T7.ext new
    have U8 := U7.ext new
    obtain ⟨N8, hN8⟩ : ∃ N, N = N7 ++ new := ⟨_, rfl⟩
    rw [← hN8] at K8 R8 T8 U8 ⊢
    clear hN8 R7 T7 U7 K7
    clear nr
    simp (config := {implicitDefEqProofs := false, maxDischargeDepth := 20}) (disch := first | omega | (simp only [lenE]; done) | (simp only [lenE]; omega) | rfl | (simp only [lenE, markR_len]; done) | (simp only [lenE, markR_len]; omega)) only [runE, mapE, listE, initT_5, initT_6, initT_7, initT_8, resV, oneV, binA, unA, reduceCtorEq, Nat.reduceEqDiff, Nat.reduceAdd, Nat.reduceLT, Nat.reduceLeDiff, Nat.reduceMul, Nat.reduceSub, ↓reduceIte, decide_true, decide_false, Bool.true_eq_false, Bool.false_eq_true, Bool.not_true, Bool.not_false, if_true, if_false, and_true, true_and, memE, celE, w64, Nat.zero_add, Nat.add_zero, Nat.mul_one, putL, and_self, ldn, kR K8, ext_2_0, ext_2_1, ext_3_0, ext_3_1, ext_3_2, bne_self_eq_false, beq_self_eq_true, goG_undef, Bool.not_true, Bool.not_false]
    clear U8
    refine callH_rc (C8 _ K8) ?_
    rintro r new ⟨nr, Vv, rfl, hw⟩
    have Vn := PairsO.in hw.now
    clear hw
    have K9 := Kx new K8
    have R9 := R8.ext new
    have T9 := T8.ext new
    obtain ⟨N9, hN9⟩ : ∃ N, N = N8 ++ new := ⟨_, rfl⟩
    rw [← hN9] at K9 R9 T9 Vn ⊢
    clear hN9 R8 T8 K8
    have V9 := Vn
    clear Vn nr
    simp (config := {implicitDefEqProofs := false, maxDischargeDepth := 20}) (disch := first | omega | (simp only [lenE]; done) | (simp only [lenE]; omega) | rfl | (simp only [lenE, markR_len]; done) | (simp only [lenE, markR_len]; omega)) only [runE, mapE, listE, initT_5, initT_6, initT_7, initT_8, resV, oneV, binA, unA, reduceCtorEq, Nat.reduceEqDiff, Nat.reduceAdd, Nat.reduceLT, Nat.reduceLeDiff, Nat.reduceMul, Nat.reduceSub, ↓reduceIte, decide_true, decide_false, Bool.true_eq_false, Bool.false_eq_true, Bool.not_true, Bool.not_false, if_true, if_false, and_true, true_and, memE, celE, w64, Nat.zero_add, Nat.add_zero, Nat.mul_one, putL, and_self, ldn, kR K9, ext_2_0, ext_2_1, ext_3_0, ext_3_1, ext_3_2, bne_self_eq_false, beq_self_eq_true, goG_undef, Bool.not_true, Bool.not_false]
    refine callH_rc (C9 _ K9) ?_
    rintro r new ⟨nr, Wv, rfl, hw⟩
    have Wn := PairsO.in hw.now
    clear hw
    have K10 := Kx new K9
    have R10 := R9.ext new
    have T10 := T9.ext new
    have V10 := V9.ext new
    obtain ⟨N10, hN10⟩ : ∃ N, N = N9 ++ new := ⟨_, rfl⟩
    rw [← hN10] at K10 R10 T10 V10 Wn ⊢
    clear hN10 R9 T9 V9 K9
    have W10 := Wn
    clear Wn nr
    simp (config := {implicitDefEqProofs := false, maxDischargeDepth := 20}) (disch := first | omega | (simp only [lenE]; done) | (simp only [lenE]; omega) | rfl | (simp only [lenE, markR_len]; done) | (simp only [lenE, markR_len]; omega)) only [runE, mapE, listE, initT_5, initT_6, initT_7, initT_8, resV, oneV, binA, unA, reduceCtorEq, Nat.reduceEqDiff, Nat.reduceAdd, Nat.reduceLT, Nat.reduceLeDiff, Nat.reduceMul, Nat.reduceSub, ↓reduceIte, decide_true, decide_false, Bool.true_eq_false, Bool.false_eq_true, Bool.not_true, Bool.not_false, if_true, if_false, and_true, true_and, memE, celE, w64, Nat.zero_add, Nat.add_zero, Nat.mul_one, putL, and_self, ldn, kR K10, ext_2_0, ext_2_1, ext_3_0, ext_3_1, ext_3_2, bne_self_eq_false, beq_self_eq_true, goG_undef, Bool.not_true, Bool.not_false]
    refine callH_rc (rPairs_rc _ _ _ lv V10 W10) ?_
    rintro r new ⟨rfl, nr⟩
    have K11 := Kx new K10
    have R11 := R10.ext new
    have T11 := T10.ext new
    have V11 := V10.ext new
    have W11 := W10.ext new
    obtain ⟨N11, hN11⟩ : ∃ N, N = N10 ++ new := ⟨_, rfl⟩
    rw [← hN11] at K11 R11 T11 V11 W11 ⊢
    clear hN11 R10 T10 V10 W10 K10
    clear nr
    simp (config := {implicitDefEqProofs := false, maxDischargeDepth := 20}) (disch := first | omega | (simp only [lenE]; done) | (simp only [lenE]; omega) | rfl | (simp only [lenE, markR_len]; done) | (simp only [lenE, markR_len]; omega)) only [runE, mapE, listE, initT_5, initT_6, initT_7, initT_8, resV, oneV, binA, unA, reduceCtorEq, Nat.reduceEqDiff, Nat.reduceAdd, Nat.reduceLT, Nat.reduceLeDiff, Nat.reduceMul, Nat.reduceSub, ↓reduceIte, decide_true, decide_false, Bool.true_eq_false, Bool.false_eq_true, Bool.not_true, Bool.not_false, if_true, if_false, and_true, true_and, memE, celE, w64, Nat.zero_add, Nat.add_zero, Nat.mul_one, putL, and_self, ldn, kR K11, ext_2_0, ext_2_1, ext_3_0, ext_3_1, ext_3_2, bne_self_eq_false, beq_self_eq_true, goG_undef, Bool.not_true, Bool.not_false]
    clear W11
    refine callH_rc (Ca _ K11) ?_
    rintro r new ⟨rfl, nr⟩
    have K12 := Kx new K11
    have R12 := R11.ext new
    have T12 := T11.ext new
    have V12 := V11.ext new
    obtain ⟨N12, hN12⟩ : ∃ N, N = N11 ++ new := ⟨_, rfl⟩
    rw [← hN12] at K12 R12 T12 V12 ⊢
    clear hN12 R11 T11 V11 K11
    clear nr
    simp (config := {implicitDefEqProofs := false, maxDischargeDepth := 20}) (disch := first | omega | (simp only [lenE]; done) | (simp only [lenE]; omega) | rfl | (simp only [lenE, markR_len]; done) | (simp only [lenE, markR_len]; omega)) only [runE, mapE, listE, initT_5, initT_6, initT_7, initT_8, resV, oneV, binA, unA, reduceCtorEq, Nat.reduceEqDiff, Nat.reduceAdd, Nat.reduceLT, Nat.reduceLeDiff, Nat.reduceMul, Nat.reduceSub, ↓reduceIte, decide_true, decide_false, Bool.true_eq_false, Bool.false_eq_true, Bool.not_true, Bool.not_false, if_true, if_false, and_true, true_and, memE, celE, w64, Nat.zero_add, Nat.add_zero, Nat.mul_one, putL, and_self, ldn, kR K12, ext_2_0, ext_2_1, ext_3_0, ext_3_1, ext_3_2, bne_self_eq_false, beq_self_eq_true, goG_undef, Bool.not_true, Bool.not_false]
    refine callH_rc (Cb _ K12) ?_
    rintro r new ⟨rfl, nr⟩
    have K13 := Kx new K12
    have R13 := R12.ext new
    have T13 := T12.ext new
    have V13 := V12.ext new
    obtain ⟨N13, hN13⟩ : ∃ N, N = N12 ++ new := ⟨_, rfl⟩
    rw [← hN13] at K13 R13 T13 V13 ⊢
    clear hN13 R12 T12 V12 K12
    clear nr
    simp (config := {implicitDefEqProofs := false, maxDischargeDepth := 20}) (disch := first | omega | (simp only [lenE]; done) | (simp only [lenE]; omega) | rfl | (simp only [lenE, markR_len]; done) | (simp only [lenE, markR_len]; omega)) only [runE, mapE, listE, initT_5, initT_6, initT_7, initT_8, resV, oneV, binA, unA, reduceCtorEq, Nat.reduceEqDiff, Nat.reduceAdd, Nat.reduceLT, Nat.reduceLeDiff, Nat.reduceMul, Nat.reduceSub, ↓reduceIte, decide_true, decide_false, Bool.true_eq_false, Bool.false_eq_true, Bool.not_true, Bool.not_false, if_true, if_false, and_true, true_and, memE, celE, w64, Nat.zero_add, Nat.add_zero, Nat.mul_one, putL, and_self, ldn, kR K13, ext_2_0, ext_2_1, ext_3_0, ext_3_1, ext_3_2, bne_self_eq_false, beq_self_eq_true, goG_undef, Bool.not_true, Bool.not_false]
  | true =>
    as_aux_lemma =>
    refine callH_rc (C1 _ K0) ?_
    rintro r new ⟨nr, Rv, rfl, hw⟩
    have Rn := IntsO.in hw.now
    clear hw
    have K1 := Kx new K0
    obtain ⟨N1, hN1⟩ : ∃ N, N = M ++ new := ⟨_, rfl⟩
    rw [← hN1] at K1 Rn ⊢
    clear hN1 K0
    have R1 := Rn
    clear Rn nr
    simp (config := {implicitDefEqProofs := false, maxDischargeDepth := 20}) (disch := first | omega | (simp only [lenE]; done) | (simp only [lenE]; omega) | rfl | (simp only [lenE, markR_len]; done) | (simp only [lenE, markR_len]; omega)) only [runE, mapE, listE, initT_5, initT_6, initT_7, initT_8, resV, oneV, binA, unA, reduceCtorEq, Nat.reduceEqDiff, Nat.reduceAdd, Nat.reduceLT, Nat.reduceLeDiff, Nat.reduceMul, Nat.reduceSub, ↓reduceIte, decide_true, decide_false, Bool.true_eq_false, Bool.false_eq_true, Bool.not_true, Bool.not_false, if_true, if_false, and_true, true_and, memE, celE, w64, Nat.zero_add, Nat.add_zero, Nat.mul_one, putL, and_self, ldn, kR K1, ext_2_0, ext_2_1, ext_3_0, ext_3_1, ext_3_2, bne_self_eq_false, beq_self_eq_true, goG_undef, Bool.not_true, Bool.not_false]
    refine callH_rc (C2 _ K1) ?_
    rintro r new ⟨nr, Sv, rfl, hw⟩
    have Sn := IntsO.in hw.now
    clear hw
    have K2 := Kx new K1
    have R2 := R1.ext new
    obtain ⟨N2, hN2⟩ : ∃ N, N = N1 ++ new := ⟨_, rfl⟩
    rw [← hN2] at K2 R2 Sn ⊢
    clear hN2 R1 K1
    have S2 := Sn
    clear Sn nr
    simp (config := {implicitDefEqProofs := false, maxDischargeDepth := 20}) (disch := first | omega | (simp only [lenE]; done) | (simp only [lenE]; omega) | rfl | (simp only [lenE, markR_len]; done) | (simp only [lenE, markR_len]; omega)) only [runE, mapE, listE, initT_5, initT_6, initT_7, initT_8, resV, oneV, binA, unA, reduceCtorEq, Nat.reduceEqDiff, Nat.reduceAdd, Nat.reduceLT, Nat.reduceLeDiff, Nat.reduceMul, Nat.reduceSub, ↓reduceIte, decide_true, decide_false, Bool.true_eq_false, Bool.false_eq_true, Bool.not_true, Bool.not_false, if_true, if_false, and_true, true_and, memE, celE, w64, Nat.zero_add, Nat.add_zero, Nat.mul_one, putL, and_self, ldn, kR K2, ext_2_0, ext_2_1, ext_3_0, ext_3_1, ext_3_2, bne_self_eq_false, beq_self_eq_true, goG_undef, Bool.not_true, Bool.not_false]
    refine callH_rc (rInts_rc _ _ _ lw R2 S2) ?_
    rintro r new ⟨rfl, rfl⟩
    rw [List.append_nil]
    simp (config := {implicitDefEqProofs := false, maxDischargeDepth := 20}) (disch := first | omega | (simp only [lenE]; done) | (simp only [lenE]; omega) | rfl | (simp only [lenE, markR_len]; done) | (simp only [lenE, markR_len]; omega)) only [runE, mapE, listE, initT_5, initT_6, initT_7, initT_8, resV, oneV, binA, unA, reduceCtorEq, Nat.reduceEqDiff, Nat.reduceAdd, Nat.reduceLT, Nat.reduceLeDiff, Nat.reduceMul, Nat.reduceSub, ↓reduceIte, decide_true, decide_false, Bool.true_eq_false, Bool.false_eq_true, Bool.not_true, Bool.not_false, if_true, if_false, and_true, true_and, memE, celE, w64, Nat.zero_add, Nat.add_zero, Nat.mul_one, putL, and_self, ldn, kR K2, ext_2_0, ext_2_1, ext_3_0, ext_3_1, ext_3_2, bne_self_eq_false, beq_self_eq_true, goG_undef, Bool.not_true, Bool.not_false]
    clear S2
    refine callH_rc (C3 _ K2) ?_
    rintro r new ⟨rfl, nr⟩
    have K3 := Kx new K2
    have R3 := R2.ext new
    obtain ⟨N3, hN3⟩ : ∃ N, N = N2 ++ new := ⟨_, rfl⟩
    rw [← hN3] at K3 R3 ⊢
    clear hN3 R2 K2
    clear nr
    simp (config := {implicitDefEqProofs := false, maxDischargeDepth := 20}) (disch := first | omega | (simp only [lenE]; done) | (simp only [lenE]; omega) | rfl | (simp only [lenE, markR_len]; done) | (simp only [lenE, markR_len]; omega)) only [runE, mapE, listE, initT_5, initT_6, initT_7, initT_8, resV, oneV, binA, unA, reduceCtorEq, Nat.reduceEqDiff, Nat.reduceAdd, Nat.reduceLT, Nat.reduceLeDiff, Nat.reduceMul, Nat.reduceSub, ↓reduceIte, decide_true, decide_false, Bool.true_eq_false, Bool.false_eq_true, Bool.not_true, Bool.not_false, if_true, if_false, and_true, true_and, memE, celE, w64, Nat.zero_add, Nat.add_zero, Nat.mul_one, putL, and_self, ldn, kR K3, ext_2_0, ext_2_1, ext_3_0, ext_3_1, ext_3_2, bne_self_eq_false, beq_self_eq_true, goG_undef, Bool.not_true, Bool.not_false]
    refine callH_rc (C4 _ K3) ?_
    rintro r new ⟨rfl, nr⟩
    have K4 := Kx new K3
    have R4 := R3.ext new
    obtain ⟨N4, hN4⟩ : ∃ N, N = N3 ++ new := ⟨_, rfl⟩
    rw [← hN4] at K4 R4 ⊢
    clear hN4 R3 K3
    clear nr
    simp (config := {implicitDefEqProofs := false, maxDischargeDepth := 20}) (disch := first | omega | (simp only [lenE]; done) | (simp only [lenE]; omega) | rfl | (simp only [lenE, markR_len]; done) | (simp only [lenE, markR_len]; omega)) only [runE, mapE, listE, initT_5, initT_6, initT_7, initT_8, resV, oneV, binA, unA, reduceCtorEq, Nat.reduceEqDiff, Nat.reduceAdd, Nat.reduceLT, Nat.reduceLeDiff, Nat.reduceMul, Nat.reduceSub, ↓reduceIte, decide_true, decide_false, Bool.true_eq_false, Bool.false_eq_true, Bool.not_true, Bool.not_false, if_true, if_false, and_true, true_and, memE, celE, w64, Nat.zero_add, Nat.add_zero, Nat.mul_one, putL, and_self, ldn, kR K4, ext_2_0, ext_2_1, ext_3_0, ext_3_1, ext_3_2, bne_self_eq_false, beq_self_eq_true, goG_undef, Bool.not_true, Bool.not_false]
    refine callH_rc (C5 _ K4) ?_
    rintro r new ⟨rfl, nr⟩
    have K5 := Kx new K4
    have R5 := R4.ext new
    obtain ⟨N5, hN5⟩ : ∃ N, N = N4 ++ new := ⟨_, rfl⟩
    rw [← hN5] at K5 R5 ⊢
    clear hN5 R4 K4
    clear nr
    simp (config := {implicitDefEqProofs := false, maxDischargeDepth := 20}) (disch := first | omega | (simp only [lenE]; done) | (simp only [lenE]; omega) | rfl | (simp only [lenE, markR_len]; done) | (simp only [lenE, markR_len]; omega)) only [runE, mapE, listE, initT_5, initT_6, initT_7, initT_8, resV, oneV, binA, unA, reduceCtorEq, Nat.reduceEqDiff, Nat.reduceAdd, Nat.reduceLT, Nat.reduceLeDiff, Nat.reduceMul, Nat.reduceSub, ↓reduceIte, decide_true, decide_false, Bool.true_eq_false, Bool.false_eq_true, Bool.not_true, Bool.not_false, if_true, if_false, and_true, true_and, memE, celE, w64, Nat.zero_add, Nat.add_zero, Nat.mul_one, putL, and_self, ldn, kR K5, ext_2_0, ext_2_1, ext_3_0, ext_3_1, ext_3_2, bne_self_eq_false, beq_self_eq_true, goG_undef, Bool.not_true, Bool.not_false]
    refine callH_rc (C6 _ K5) ?_
    rintro r new ⟨nr, Tv, rfl, hw⟩
    have Tn := TabO.in hw.now
    clear hw
    have K6 := Kx new K5
    have R6 := R5.ext new
    obtain ⟨N6, hN6⟩ : ∃ N, N = N5 ++ new := ⟨_, rfl⟩
    rw [← hN6] at K6 R6 Tn ⊢
    clear hN6 R5 K5
    have T6 := Tn
    clear Tn nr
    simp (config := {implicitDefEqProofs := false, maxDischargeDepth := 20}) (disch := first | omega | (simp only [lenE]; done) | (simp only [lenE]; omega) | rfl | (simp only [lenE, markR_len]; done) | (simp only [lenE, markR_len]; omega)) only [runE, mapE, listE, initT_5, initT_6, initT_7, initT_8, resV, oneV, binA, unA, reduceCtorEq, Nat.reduceEqDiff, Nat.reduceAdd, Nat.reduceLT, Nat.reduceLeDiff, Nat.reduceMul, Nat.reduceSub, ↓reduceIte, decide_true, decide_false, Bool.true_eq_false, Bool.false_eq_true, Bool.not_true, Bool.not_false, if_true, if_false, and_true, true_and, memE, celE, w64, Nat.zero_add, Nat.add_zero, Nat.mul_one, putL, and_self, ldn, kR K6, ext_2_0, ext_2_1, ext_3_0, ext_3_1, ext_3_2, bne_self_eq_false, beq_self_eq_true, goG_undef, Bool.not_true, Bool.not_false]
    refine callH_rc (C7 _ K6) ?_
    rintro r new ⟨nr, Uv, rfl, hw⟩
    have Un := TabO.in hw.now
    clear hw
    have K7 := Kx new K6
    have R7 := R6.ext new
    have T7 := T6.ext new
    obtain ⟨N7, hN7⟩ : ∃ N, N = N6 ++ new := ⟨_, rfl⟩
    rw [← hN7] at K7 R7 T7 Un ⊢
    clear hN7 R6 T6 K6
    have U7 := Un
    clear Un nr
    simp (config := {implicitDefEqProofs := false, maxDischargeDepth := 20}) (disch := first | omega | (simp only [lenE]; done) | (simp only [lenE]; omega) | rfl | (simp only [lenE, markR_len]; done) | (simp only [lenE, markR_len]; omega)) only [runE, mapE, listE, initT_5, initT_6, initT_7, initT_8, resV, oneV, binA, unA, reduceCtorEq, Nat.reduceEqDiff, Nat.reduceAdd, Nat.reduceLT, Nat.reduceLeDiff, Nat.reduceMul, Nat.reduceSub, ↓reduceIte, decide_true, decide_false, Bool.true_eq_false, Bool.false_eq_true, Bool.not_true, Bool.not_false, if_true, if_false, and_true, true_and, memE, celE, w64, Nat.zero_add, Nat.add_zero, Nat.mul_one, putL, and_self, ldn, kR K7, ext_2_0, ext_2_1, ext_3_0, ext_3_1, ext_3_2, bne_self_eq_false, beq_self_eq_true, goG_undef, Bool.not_true, Bool.not_false]
    refine callH_rc (rTable_rc _ _ _ tb T7 U7) ?_
    rintro r new ⟨rfl, nr⟩
    have K8 := Kx new K7
    have R8 := R7.ext new
    have T8 := T7.ext new
    have U8 := U7.ext new
    obtain ⟨N8, hN8⟩ : ∃ N, N = N7 ++ new := ⟨_, rfl⟩
    rw [← hN8] at K8 R8 T8 U8 ⊢
    clear hN8 R7 T7 U7 K7
    clear nr
    simp (config := {implicitDefEqProofs := false, maxDischargeDepth := 20}) (disch := first | omega | (simp only [lenE]; done) | (simp only [lenE]; omega) | rfl | (simp only [lenE, markR_len]; done) | (simp only [lenE, markR_len]; omega)) only [runE, mapE, listE, initT_5, initT_6, initT_7, initT_8, resV, oneV, binA, unA, reduceCtorEq, Nat.reduceEqDiff, Nat.reduceAdd, Nat.reduceLT, Nat.reduceLeDiff, Nat.reduceMul, Nat.reduceSub, ↓reduceIte, decide_true, decide_false, Bool.true_eq_false, Bool.false_eq_true, Bool.not_true, Bool.not_false, if_true, if_false, and_true, true_and, memE, celE, w64, Nat.zero_add, Nat.add_zero, Nat.mul_one, putL, and_self, ldn, kR K8, ext_2_0, ext_2_1, ext_3_0, ext_3_1, ext_3_2, bne_self_eq_false, beq_self_eq_true, goG_undef, Bool.not_true, Bool.not_false]
    clear U8
    refine callH_rc (C8 _ K8) ?_
    rintro r new ⟨nr, Vv, rfl, hw⟩
    have Vn := PairsO.in hw.now
    clear hw
    have K9 := Kx new K8
    have R9 := R8.ext new
    have T9 := T8.ext new
    obtain ⟨N9, hN9⟩ : ∃ N, N = N8 ++ new := ⟨_, rfl⟩
    rw [← hN9] at K9 R9 T9 Vn ⊢
    clear hN9 R8 T8 K8
    have V9 := Vn
    clear Vn nr
    simp (config := {implicitDefEqProofs := false, maxDischargeDepth := 20}) (disch := first | omega | (simp only [lenE]; done) | (simp only [lenE]; omega) | rfl | (simp only [lenE, markR_len]; done) | (simp only [lenE, markR_len]; omega)) only [runE, mapE, listE, initT_5, initT_6, initT_7, initT_8, resV, oneV, binA, unA, reduceCtorEq, Nat.reduceEqDiff, Nat.reduceAdd, Nat.reduceLT, Nat.reduceLeDiff, Nat.reduceMul, Nat.reduceSub, ↓reduceIte, decide_true, decide_false, Bool.true_eq_false, Bool.false_eq_true, Bool.not_true, Bool.not_false, if_true, if_false, and_true, true_and, memE, celE, w64, Nat.zero_add, Nat.add_zero, Nat.mul_one, putL, and_self, ldn, kR K9, ext_2_0, ext_2_1, ext_3_0, ext_3_1, ext_3_2, bne_self_eq_false, beq_self_eq_true, goG_undef, Bool.not_true, Bool.not_false]
    refine callH_rc (C9 _ K9) ?_
    rintro r new ⟨nr, Wv, rfl, hw⟩
    have Wn := PairsO.in hw.now
    clear hw
    have K10 := Kx new K9
    have R10 := R9.ext new
    have T10 := T9.ext new
    have V10 := V9.ext new
    obtain ⟨N10, hN10⟩ : ∃ N, N = N9 ++ new := ⟨_, rfl⟩
    rw [← hN10] at K10 R10 T10 V10 Wn ⊢
    clear hN10 R9 T9 V9 K9
    have W10 := Wn
    clear Wn nr
    simp (config := {implicitDefEqProofs := false, maxDischargeDepth := 20}) (disch := first | omega | (simp only [lenE]; done) | (simp only [lenE]; omega) | rfl | (simp only [lenE, markR_len]; done) | (simp only [lenE, markR_len]; omega)) only [runE, mapE, listE, initT_5, initT_6, initT_7, initT_8, resV, oneV, binA, unA, reduceCtorEq, Nat.reduceEqDiff, Nat.reduceAdd, Nat.reduceLT, Nat.reduceLeDiff, Nat.reduceMul, Nat.reduceSub, ↓reduceIte, decide_true, decide_false, Bool.true_eq_false, Bool.false_eq_true, Bool.not_true, Bool.not_false, if_true, if_false, and_true, true_and, memE, celE, w64, Nat.zero_add, Nat.add_zero, Nat.mul_one, putL, and_self, ldn, kR K10, ext_2_0, ext_2_1, ext_3_0, ext_3_1, ext_3_2, bne_self_eq_false, beq_self_eq_true, goG_undef, Bool.not_true, Bool.not_false]
    refine callH_rc (rPairs_rc _ _ _ lv V10 W10) ?_
    rintro r new ⟨rfl, nr⟩
    have K11 := Kx new K10
    have R11 := R10.ext new
    have T11 := T10.ext new
    have V11 := V10.ext new
    have W11 := W10.ext new
    obtain ⟨N11, hN11⟩ : ∃ N, N = N10 ++ new := ⟨_, rfl⟩
    rw [← hN11] at K11 R11 T11 V11 W11 ⊢
    clear hN11 R10 T10 V10 W10 K10
    clear nr
    simp (config := {implicitDefEqProofs := false, maxDischargeDepth := 20}) (disch := first | omega | (simp only [lenE]; done) | (simp only [lenE]; omega) | rfl | (simp only [lenE, markR_len]; done) | (simp only [lenE, markR_len]; omega)) only [runE, mapE, listE, initT_5, initT_6, initT_7, initT_8, resV, oneV, binA, unA, reduceCtorEq, Nat.reduceEqDiff, Nat.reduceAdd, Nat.reduceLT, Nat.reduceLeDiff, Nat.reduceMul, Nat.reduceSub, ↓reduceIte, decide_true, decide_false, Bool.true_eq_false, Bool.false_eq_true, Bool.not_true, Bool.not_false, if_true, if_false, and_true, true_and, memE, celE, w64, Nat.zero_add, Nat.add_zero, Nat.mul_one, putL, and_self, ldn, kR K11, ext_2_0, ext_2_1, ext_3_0, ext_3_1, ext_3_2, bne_self_eq_false, beq_self_eq_true, goG_undef, Bool.not_true, Bool.not_false]
    clear W11
    refine callH_rc (Ca _ K11) ?_
    rintro r new ⟨rfl, nr⟩
    have K12 := Kx new K11
    have R12 := R11.ext new
    have T12 := T11.ext new
    have V12 := V11.ext new
    obtain ⟨N12, hN12⟩ : ∃ N, N = N11 ++ new := ⟨_, rfl⟩
    rw [← hN12] at K12 R12 T12 V12 ⊢
    clear hN12 R11 T11 V11 K11
    clear nr
    simp (config := {implicitDefEqProofs := false, maxDischargeDepth := 20}) (disch := first | omega | (simp only [lenE]; done) | (simp only [lenE]; omega) | rfl | (simp only [lenE, markR_len]; done) | (simp only [lenE, markR_len]; omega)) only [runE, mapE, listE, initT_5, initT_6, initT_7, initT_8, resV, oneV, binA, unA, reduceCtorEq, Nat.reduceEqDiff, Nat.reduceAdd, Nat.reduceLT, Nat.reduceLeDiff, Nat.reduceMul, Nat.reduceSub, ↓reduceIte, decide_true, decide_false, Bool.true_eq_false, Bool.false_eq_true, Bool.not_true, Bool.not_false, if_true, if_false, and_true, true_and, memE, celE, w64, Nat.zero_add, Nat.add_zero, Nat.mul_one, putL, and_self, ldn, kR K12, ext_2_0, ext_2_1, ext_3_0, ext_3_1, ext_3_2, bne_self_eq_false, beq_self_eq_true, goG_undef, Bool.not_true, Bool.not_false]
    refine callH_rc (Cb _ K12) ?_
    rintro r new ⟨rfl, nr⟩
    have K13 := Kx new K12
    have R13 := R12.ext new
    have T13 := T12.ext new
    have V13 := V12.ext new
    obtain ⟨N13, hN13⟩ : ∃ N, N = N12 ++ new := ⟨_, rfl⟩
    rw [← hN13] at K13 R13 T13 V13 ⊢
    clear hN13 R12 T12 V12 K12
    clear nr
    simp (config := {implicitDefEqProofs := false, maxDischargeDepth := 20}) (disch := first | omega | (simp only [lenE]; done) | (simp only [lenE]; omega) | rfl | (simp only [lenE, markR_len]; done) | (simp only [lenE, markR_len]; omega)) only [runE, mapE, listE, initT_5, initT_6, initT_7, initT_8, resV, oneV, binA, unA, reduceCtorEq, Nat.reduceEqDiff, Nat.reduceAdd, Nat.reduceLT, Nat.reduceLeDiff, Nat.reduceMul, Nat.reduceSub, ↓reduceIte, decide_true, decide_false, Bool.true_eq_false, Bool.false_eq_true, Bool.not_true, Bool.not_false, if_true, if_false, and_true, true_and, memE, celE, w64, Nat.zero_add, Nat.add_zero, Nat.mul_one, putL, and_self, ldn, kR K13, ext_2_0, ext_2_1, ext_3_0, ext_3_1, ext_3_2, bne_self_eq_false, beq_self_eq_true, goG_undef, Bool.not_true, Bool.not_false]
    have hg := hgd.symm
    have hG := goodP_iff.1 hg
    have hxw' : xw = p.whole := by rw [hxw, if_pos hg]
    have hyw' : yw = p.pow p.turns.toNat := by rw [hyw, if_pos hg]
    have htb' : tb = p.tab p.bestC p.turns.toNat := by rw [htb, if_pos hg]
    have wb := worth_best hg
    rw [← hlv] at wb
    clear hxw hyw htb hgd C1 C2 C3 C4 C5 C6 C7 C8 C9 Ca Cb
    obtain ⟨r0, hr0⟩ : ∃ t, t = p.rowsN p.bestC p.turns.toNat := ⟨_, rfl⟩
    have l0 : r0.length = 21 := by rw [hr0]; exact Pr.rowsN_len _ _ _
    have Cq : ∀ M, K M → PairsA M Vv lv → RC Try.prog 7 [procV p u, Vv] M (AnsO M (IntsO r0) fun w => .tuple #[w, .bool true]) := fun M h hV => by
      have := implPolicyWorth_rc _ _ _ p lv (kP h) hV
      rw [wb.2, ← hr0, wb.1, hg] at this
      exact this
    refine callH_rc (Cq _ K13 V13) ?_
    rintro r new ⟨nr, Xv, rfl, hw⟩
    have Xn := IntsO.in hw.now
    clear hw
    have K14 := Kx new K13
    have R14 := R13.ext new
    have T14 := T13.ext new
    have V14 := V13.ext new
    obtain ⟨N14, hN14⟩ : ∃ N, N = N13 ++ new := ⟨_, rfl⟩
    rw [← hN14] at K14 R14 T14 V14 Xn ⊢
    clear hN14 R13 T13 V13 K13
    have X14 := Xn
    clear Xn nr
    have tl : tb.length = p.turns.toNat + 1 := by rw [htb']; exact Pr.tab_len _ _ _
    have r1 : iadA 1 Tv (.int .i64 0) = some (pAt Tv 0) := T14.at_ 0 (by omega)
    obtain ⟨y, hy, hY⟩ := T14.ld 0 (by omega)
    have ey : tb.getD 0 [] = r0 := by rw [htb', Pr.tab_at _ _ (Nat.zero_le _), hr0]; rfl
    rw [ey] at hY
    simp (config := {implicitDefEqProofs := false, maxDischargeDepth := 20}) (disch := first | omega | (simp only [lenE]; done) | (simp only [lenE]; omega) | rfl | (simp only [lenE, markR_len]; done) | (simp only [lenE, markR_len]; omega)) only [runE, mapE, listE, initT_5, initT_6, initT_7, initT_8, resV, oneV, binA, unA, reduceCtorEq, Nat.reduceEqDiff, Nat.reduceAdd, Nat.reduceLT, Nat.reduceLeDiff, Nat.reduceMul, Nat.reduceSub, ↓reduceIte, decide_true, decide_false, Bool.true_eq_false, Bool.false_eq_true, Bool.not_true, Bool.not_false, if_true, if_false, and_true, true_and, memE, celE, w64, Nat.zero_add, Nat.add_zero, Nat.mul_one, putL, and_self, ldn, kR K14, ext_2_0, ext_2_1, ext_3_0, ext_3_1, ext_3_2, bne_self_eq_false, beq_self_eq_true, goG_undef, Bool.not_true, Bool.not_false, r1, hy]
    refine callH_rc (rInts_rc _ _ _ r0 X14 hY) ?_
    rintro r new ⟨rfl, rfl⟩
    rw [List.append_nil]
    simp (config := {implicitDefEqProofs := false, maxDischargeDepth := 20}) (disch := first | omega | (simp only [lenE]; done) | (simp only [lenE]; omega) | rfl | (simp only [lenE, markR_len]; done) | (simp only [lenE, markR_len]; omega)) only [runE, mapE, listE, initT_5, initT_6, initT_7, initT_8, resV, oneV, binA, unA, reduceCtorEq, Nat.reduceEqDiff, Nat.reduceAdd, Nat.reduceLT, Nat.reduceLeDiff, Nat.reduceMul, Nat.reduceSub, ↓reduceIte, decide_true, decide_false, Bool.true_eq_false, Bool.false_eq_true, Bool.not_true, Bool.not_false, if_true, if_false, and_true, true_and, memE, celE, w64, Nat.zero_add, Nat.add_zero, Nat.mul_one, putL, and_self, ldn, kR K14, ext_2_0, ext_2_1, ext_3_0, ext_3_1, ext_3_2, bne_self_eq_false, beq_self_eq_true, goG_undef, Bool.not_true, Bool.not_false]
    clear hY hy r1
    have hpq : pb = true → p.polB L = true := fun h => by rw [hpb, hg] at h; exact h
    have hlx : pb = true → lw.length = 21 := fun h => by rw [hlw]; exact worth_len hg (hpq h)
    have hle : pb = true → ∀ i : Nat, i < 21 → ¬ (lw.getD i 0 < r0.getD i 0) := fun h i hi => by have := worth_least hg (hpq h) hi; rw [hlw, hr0]; omega
    clear hpq hlw hpb Cq
    refine loop_inv mixed (fun s => ∃ i : Nat, s.m = N14 ∧ s.t 3 = .pointer (some ⟨bd, 0, none⟩) ∧ s.t 5 = Rv ∧ s.t 6 = .bool pb ∧ s.t 13 = Tv ∧ s.t 17 = Vv ∧ s.t 21 = .int .i64 xw ∧ s.t 22 = .int .i64 yw ∧ s.t 27 = Xv ∧ s.t 29 = .int .i64 i) (fun s => 21 - (intOf (s.t 29)).toNat)
      ⟨0, rfl, rfl, rfl, rfl, rfl, rfl, rfl, rfl, rfl, rfl⟩ ?_
    rintro s ⟨i, tm, t3, t5, t6, t13, t17, t21, t22, t27, t29⟩
    cases pb with
    | false =>
      as_aux_lemma =>
      simp (config := {implicitDefEqProofs := false, maxDischargeDepth := 20}) (disch := first | omega | (simp only [lenE]; done) | (simp only [lenE]; omega) | rfl | (simp only [lenE, markR_len]; done) | (simp only [lenE, markR_len]; omega)) only [runE, mapE, listE, initT_5, initT_6, initT_7, initT_8, resV, oneV, binA, unA, reduceCtorEq, Nat.reduceEqDiff, Nat.reduceAdd, Nat.reduceLT, Nat.reduceLeDiff, Nat.reduceMul, Nat.reduceSub, ↓reduceIte, decide_true, decide_false, Bool.true_eq_false, Bool.false_eq_true, Bool.not_true, Bool.not_false, if_true, if_false, and_true, true_and, memE, celE, w64, Nat.zero_add, Nat.add_zero, Nat.mul_one, putL, and_self, ldn, tm, t3, t5, t6, t13, t17, t21, t22, t27, t29, goG_undef]
      refine loop_inv mixed (fun s => ∃ (k : Nat) (M' : Mem), k ≤ p.turns.toNat ∧ s.m = M' ∧ K M' ∧ TabA M' Tv tb ∧ PairsA M' Vv lv ∧ s.t 3 = .pointer (some ⟨bd, 0, none⟩) ∧ s.t 13 = Tv ∧ s.t 17 = Vv ∧ s.t 21 = .int .i64 xw ∧ s.t 30 = .int .i64 (p.pow (p.turns.toNat - k)) ∧ s.t 31 = .int .i64 k) (fun s => p.turns.toNat - (intOf (s.t 31)).toNat)
        ⟨0, N14, by omega, by simp only [put_t, put_t', put_m, putT_t, putT_t', putT_m, init_t, init_m, initT_0, initT_1, initT_2, initT_3, initT_4, initT_5, initT_6, initT_7, initT_8, Nat.reduceEqDiff, ↓reduceIte, tm], K14, T14, V14, by simp only [put_t, put_t', put_m, putT_t, putT_t', putT_m, init_t, init_m, initT_0, initT_1, initT_2, initT_3, initT_4, initT_5, initT_6, initT_7, initT_8, Nat.reduceEqDiff, ↓reduceIte, t3], by simp only [put_t, put_t', put_m, putT_t, putT_t', putT_m, init_t, init_m, initT_0, initT_1, initT_2, initT_3, initT_4, initT_5, initT_6, initT_7, initT_8, Nat.reduceEqDiff, ↓reduceIte, t13], by simp only [put_t, put_t', put_m, putT_t, putT_t', putT_m, init_t, init_m, initT_0, initT_1, initT_2, initT_3, initT_4, initT_5, initT_6, initT_7, initT_8, Nat.reduceEqDiff, ↓reduceIte, t17], by simp only [put_t, put_t', put_m, putT_t, putT_t', putT_m, init_t, init_m, initT_0, initT_1, initT_2, initT_3, initT_4, initT_5, initT_6, initT_7, initT_8, Nat.reduceEqDiff, ↓reduceIte, t21], by simp only [put_t, put_t', put_m, putT_t, putT_t', putT_m, init_t, init_m, initT_0, initT_1, initT_2, initT_3, initT_4, initT_5, initT_6, initT_7, initT_8, Nat.reduceEqDiff, ↓reduceIte, t22]; rw [hyw']; rfl, rfl⟩ ?_
      clear tm t3 t5 t6 t13 t17 t21 t22 t27 t29 K14 T14 V14 R14 X14
      rintro s ⟨k, M', hk, tm, K0', T0', V0', t3, t13, t17, t21, t30, t31⟩
      have htn := hG.turns
      by_cases hlt : k < p.turns.toNat
      · have hlt' : (k : Int) < p.turns := by omega
        obtain ⟨q1, q2, q3, q4, q5, q6, q7⟩ := turn_row hg hlt
        rw [← htb'] at q1
        rw [← hlv] at q7
        have hpw := hG.pow5 (n := p.turns.toNat - k) (by omega)
        obtain ⟨sc, hsc⟩ : ∃ t, t = p.pow (p.turns.toNat - k) := ⟨_, rfl⟩
        rw [← hsc] at q2 q3 q4 q5 q6 hpw t30
        obtain ⟨row, hrow⟩ : ∃ t, t = p.rowsN p.bestC (p.turns.toNat - k) := ⟨_, rfl⟩
        rw [← hrow] at q1 q2 q3
        have e1 : IntKind.i64.wrap (p.setup * sc) = p.setup * sc := w64 ⟨by omega, by omega⟩
        have a1 := T0'.at_ k (by omega)
        obtain ⟨y, hy, hY⟩ := T0'.ld k (by omega)
        rw [q1] at hY
        have b1 := kR K0'
        simp (config := {implicitDefEqProofs := false, maxDischargeDepth := 20}) (disch := first | omega | (simp only [lenE]; done) | (simp only [lenE]; omega) | rfl | (simp only [lenE, markR_len]; done) | (simp only [lenE, markR_len]; omega)) only [runE, mapE, listE, initT_5, initT_6, initT_7, initT_8, resV, oneV, binA, unA, reduceCtorEq, Nat.reduceEqDiff, Nat.reduceAdd, Nat.reduceLT, Nat.reduceLeDiff, Nat.reduceMul, Nat.reduceSub, ↓reduceIte, decide_true, decide_false, Bool.true_eq_false, Bool.false_eq_true, Bool.not_true, Bool.not_false, if_true, if_false, and_true, true_and, memE, celE, w64, Nat.zero_add, Nat.add_zero, Nat.mul_one, putL, and_self, ldn, tm, t3, t13, t17, t21, t30, t31, b1, hlt', a1, hy, e1]
        have cv := implConvex_rc _ _ row (p.setup * sc) hY
        rw [q2, q3] at cv
        refine rcallH_rc cv ?_
        clear cv
        intro r new hA
        obtain ⟨hr, nr⟩ := hA
        rw [hr]
        clear hr
        have K1' := Kx new K0'
        have T1' := T0'.ext new
        have V1' := V0'.ext new
        obtain ⟨P1, hP1⟩ : ∃ P, P = M' ++ new := ⟨_, rfl⟩
        rw [← hP1] at K1' T1' V1' ⊢
        clear hP1 nr T0' V0' K0' hY hy a1 b1
        have a1 := T1'.at_ k (by omega)
        obtain ⟨y, hy, hY⟩ := T1'.ld k (by omega)
        rw [q1] at hY
        have b1 := kR K1'
        simp (config := {implicitDefEqProofs := false, maxDischargeDepth := 20}) (disch := first | omega | (simp only [lenE]; done) | (simp only [lenE]; omega) | rfl | (simp only [lenE, markR_len]; done) | (simp only [lenE, markR_len]; omega)) only [runE, mapE, listE, initT_5, initT_6, initT_7, initT_8, resV, oneV, binA, unA, reduceCtorEq, Nat.reduceEqDiff, Nat.reduceAdd, Nat.reduceLT, Nat.reduceLeDiff, Nat.reduceMul, Nat.reduceSub, ↓reduceIte, decide_true, decide_false, Bool.true_eq_false, Bool.false_eq_true, Bool.not_true, Bool.not_false, if_true, if_false, and_true, true_and, memE, celE, w64, Nat.zero_add, Nat.add_zero, Nat.mul_one, putL, and_self, ldn, tm, t3, t13, t17, t21, t30, t31, b1, a1, hy, e1, ext_2_0, ext_2_1, Bool.and_true]
        have cv := specConvex_rc _ _ row (p.setup * sc) hY
        rw [q2, q3] at cv
        refine rcallH_rc cv ?_
        clear cv
        intro r new hA
        obtain ⟨hr, nr⟩ := hA
        have x0 : extA 0 r = some (.bool true) := by rw [hr]; rfl
        have x1 : extA 1 r = some (.bool true) := by rw [hr]; rfl
        clear hr
        have K2' := Kx new K1'
        have T2' := T1'.ext new
        have V2' := V1'.ext new
        obtain ⟨P2, hP2⟩ : ∃ P, P = P1 ++ new := ⟨_, rfl⟩
        rw [← hP2] at K2' T2' V2' ⊢
        clear hP2 nr T1' V1' K1' hY hy a1 b1
        have b1 := kR K2'
        have hwn : ¬ (xw = 0) := by have := hG.pos; omega
        have e2 : sc.tdiv xw = p.pow (p.turns.toNat - (k + 1)) := by rw [hxw']; exact q6
        have hpw2 := hG.pow5 (n := p.turns.toNat - (k + 1)) (by omega)
        have ll : lv.length = p.turns.toNat := by rw [hlv]; unfold levelsA; rw [if_pos hg, levelsL_len]
        obtain ⟨hvb, vi, vf, hve, hvc⟩ := V2'
        have V2' : PairsA P2 Vv lv := ⟨hvb, vi, vf, hve, hvc⟩
        obtain ⟨c1, c2⟩ := hvc k (by omega)
        have ik : iadA 2 (.slice (some ⟨vi, 0, none⟩) lv.length vf) (.int .i64 (k : Int)) = some (.pointer (some ⟨vi, k * 2, none⟩)) := by
          have := iadA_in (id := vi) (off := 0) (n := lv.length) (fl := vf) (sz := 2) (k := .i64) (j := k) (by omega)
          simpa using this
        by_cases h0 : p.setup = 0
        · have h0' : (p.setup == 0) = true := by simp [h0]
          rw [q7 h0] at c1
          simp (config := {implicitDefEqProofs := false, maxDischargeDepth := 20}) (disch := first | omega | (simp only [lenE]; done) | (simp only [lenE]; omega) | rfl | (simp only [lenE, markR_len]; done) | (simp only [lenE, markR_len]; omega)) only [runE, mapE, listE, initT_5, initT_6, initT_7, initT_8, resV, oneV, binA, unA, reduceCtorEq, Nat.reduceEqDiff, Nat.reduceAdd, Nat.reduceLT, Nat.reduceLeDiff, Nat.reduceMul, Nat.reduceSub, ↓reduceIte, decide_true, decide_false, Bool.true_eq_false, Bool.false_eq_true, Bool.not_true, Bool.not_false, if_true, if_false, and_true, true_and, memE, celE, w64, Nat.zero_add, Nat.add_zero, Nat.mul_one, putL, and_self, ldn, tm, t3, t13, t17, t21, t30, t31, b1, x0, x1, Bool.and_true, bne_self_eq_false, beq_self_eq_true, Bool.not_true, Bool.not_false, goG_undef, h0', hve, ik, iada_0, iada_1, c1, c2, hwn, e2]
          exact ⟨⟨k + 1, P2, by omega, rfl, K2', T2', hve ▸ V2', rfl, by simp⟩, by simp [intOf]; omega⟩
        · have h0' : (p.setup == 0) = false := by simp [h0]
          simp (config := {implicitDefEqProofs := false, maxDischargeDepth := 20}) (disch := first | omega | (simp only [lenE]; done) | (simp only [lenE]; omega) | rfl | (simp only [lenE, markR_len]; done) | (simp only [lenE, markR_len]; omega)) only [runE, mapE, listE, initT_5, initT_6, initT_7, initT_8, resV, oneV, binA, unA, reduceCtorEq, Nat.reduceEqDiff, Nat.reduceAdd, Nat.reduceLT, Nat.reduceLeDiff, Nat.reduceMul, Nat.reduceSub, ↓reduceIte, decide_true, decide_false, Bool.true_eq_false, Bool.false_eq_true, Bool.not_true, Bool.not_false, if_true, if_false, and_true, true_and, memE, celE, w64, Nat.zero_add, Nat.add_zero, Nat.mul_one, putL, and_self, ldn, tm, t3, t13, t17, t21, t30, t31, b1, x0, x1, Bool.and_true, bne_self_eq_false, beq_self_eq_true, Bool.not_true, Bool.not_false, goG_undef, h0', hwn, e2]
          exact ⟨⟨k + 1, P2, by omega, rfl, K2', T2', V2', rfl, by simp⟩, by simp [intOf]; omega⟩
      · have hlt' : ¬ ((k : Int) < p.turns) := by omega
        have b1 := kR K0'
        have pf := tab_proof hG
        rw [← htb'] at pf
        simp (config := {implicitDefEqProofs := false, maxDischargeDepth := 20}) (disch := first | omega | (simp only [lenE]; done) | (simp only [lenE]; omega) | rfl | (simp only [lenE, markR_len]; done) | (simp only [lenE, markR_len]; omega)) only [runE, mapE, listE, initT_5, initT_6, initT_7, initT_8, resV, oneV, binA, unA, reduceCtorEq, Nat.reduceEqDiff, Nat.reduceAdd, Nat.reduceLT, Nat.reduceLeDiff, Nat.reduceMul, Nat.reduceSub, ↓reduceIte, decide_true, decide_false, Bool.true_eq_false, Bool.false_eq_true, Bool.not_true, Bool.not_false, if_true, if_false, and_true, true_and, memE, celE, w64, Nat.zero_add, Nat.add_zero, Nat.mul_one, putL, and_self, ldn, tm, t3, t13, t17, t21, t30, t31, b1, hlt']
        have cv := implProof6_rc _ _ _ p tb (kP K0') T0'
        rw [pf, hg] at cv
        refine callH_rc cv ?_
        clear cv
        intro r new hA
        obtain ⟨hr, nr⟩ := hA
        rw [hr]
        clear hr
        simp (config := {implicitDefEqProofs := false, maxDischargeDepth := 20}) (disch := first | omega | (simp only [lenE]; done) | (simp only [lenE]; omega) | rfl | (simp only [lenE, markR_len]; done) | (simp only [lenE, markR_len]; omega)) only [runE, mapE, listE, initT_5, initT_6, initT_7, initT_8, resV, oneV, binA, unA, reduceCtorEq, Nat.reduceEqDiff, Nat.reduceAdd, Nat.reduceLT, Nat.reduceLeDiff, Nat.reduceMul, Nat.reduceSub, ↓reduceIte, decide_true, decide_false, Bool.true_eq_false, Bool.false_eq_true, Bool.not_true, Bool.not_false, if_true, if_false, and_true, true_and, memE, celE, w64, Nat.zero_add, Nat.add_zero, Nat.mul_one, putL, and_self, ldn, tm, t3, t13, t17, t21, t30, t31, ext_2_0, ext_2_1, Bool.and_true, goG_undef]
    | true =>
      have h21 := hlx rfl
      have hi0 := R14.len
      by_cases hlt : i < 21
      · have hlt' : (i : Int) < lw.length := by omega
        have hng := hle rfl i hlt
        simp (config := {implicitDefEqProofs := false, maxDischargeDepth := 20}) (disch := first | omega | (simp only [lenE]; done) | (simp only [lenE]; omega) | rfl | (simp only [lenE, markR_len]; done) | (simp only [lenE, markR_len]; omega)) only [runE, mapE, listE, initT_5, initT_6, initT_7, initT_8, resV, oneV, binA, unA, reduceCtorEq, Nat.reduceEqDiff, Nat.reduceAdd, Nat.reduceLT, Nat.reduceLeDiff, Nat.reduceMul, Nat.reduceSub, ↓reduceIte, decide_true, decide_false, Bool.true_eq_false, Bool.false_eq_true, Bool.not_true, Bool.not_false, if_true, if_false, and_true, true_and, memE, celE, w64, Nat.zero_add, Nat.add_zero, Nat.mul_one, putL, and_self, ldn, tm, t3, t5, t6, t13, t17, t21, t22, t27, t29, hi0, hlt', R14.at_ i (by omega), R14.ld i (by omega), X14.at_ i (by omega), X14.ld i (by omega), hng]
        exact ⟨⟨i + 1, by simp⟩, by simp [intOf]; omega⟩
      · have hlt' : ¬ ((i : Int) < lw.length) := by omega
        as_aux_lemma =>
        simp (config := {implicitDefEqProofs := false, maxDischargeDepth := 20}) (disch := first | omega | (simp only [lenE]; done) | (simp only [lenE]; omega) | rfl | (simp only [lenE, markR_len]; done) | (simp only [lenE, markR_len]; omega)) only [runE, mapE, listE, initT_5, initT_6, initT_7, initT_8, resV, oneV, binA, unA, reduceCtorEq, Nat.reduceEqDiff, Nat.reduceAdd, Nat.reduceLT, Nat.reduceLeDiff, Nat.reduceMul, Nat.reduceSub, ↓reduceIte, decide_true, decide_false, Bool.true_eq_false, Bool.false_eq_true, Bool.not_true, Bool.not_false, if_true, if_false, and_true, true_and, memE, celE, w64, Nat.zero_add, Nat.add_zero, Nat.mul_one, putL, and_self, ldn, tm, t3, t5, t6, t13, t17, t21, t22, t27, t29, hi0, hlt', goG_undef]
        refine loop_inv mixed (fun s => ∃ (k : Nat) (M' : Mem), k ≤ p.turns.toNat ∧ s.m = M' ∧ K M' ∧ TabA M' Tv tb ∧ PairsA M' Vv lv ∧ s.t 3 = .pointer (some ⟨bd, 0, none⟩) ∧ s.t 13 = Tv ∧ s.t 17 = Vv ∧ s.t 21 = .int .i64 xw ∧ s.t 30 = .int .i64 (p.pow (p.turns.toNat - k)) ∧ s.t 31 = .int .i64 k) (fun s => p.turns.toNat - (intOf (s.t 31)).toNat)
          ⟨0, N14, by omega, by simp only [put_t, put_t', put_m, putT_t, putT_t', putT_m, init_t, init_m, initT_0, initT_1, initT_2, initT_3, initT_4, initT_5, initT_6, initT_7, initT_8, Nat.reduceEqDiff, ↓reduceIte, tm], K14, T14, V14, by simp only [put_t, put_t', put_m, putT_t, putT_t', putT_m, init_t, init_m, initT_0, initT_1, initT_2, initT_3, initT_4, initT_5, initT_6, initT_7, initT_8, Nat.reduceEqDiff, ↓reduceIte, t3], by simp only [put_t, put_t', put_m, putT_t, putT_t', putT_m, init_t, init_m, initT_0, initT_1, initT_2, initT_3, initT_4, initT_5, initT_6, initT_7, initT_8, Nat.reduceEqDiff, ↓reduceIte, t13], by simp only [put_t, put_t', put_m, putT_t, putT_t', putT_m, init_t, init_m, initT_0, initT_1, initT_2, initT_3, initT_4, initT_5, initT_6, initT_7, initT_8, Nat.reduceEqDiff, ↓reduceIte, t17], by simp only [put_t, put_t', put_m, putT_t, putT_t', putT_m, init_t, init_m, initT_0, initT_1, initT_2, initT_3, initT_4, initT_5, initT_6, initT_7, initT_8, Nat.reduceEqDiff, ↓reduceIte, t21], by simp only [put_t, put_t', put_m, putT_t, putT_t', putT_m, init_t, init_m, initT_0, initT_1, initT_2, initT_3, initT_4, initT_5, initT_6, initT_7, initT_8, Nat.reduceEqDiff, ↓reduceIte, t22]; rw [hyw']; rfl, rfl⟩ ?_
        clear tm t3 t5 t6 t13 t17 t21 t22 t27 t29 K14 T14 V14 R14 X14
        rintro s ⟨k, M', hk, tm, K0', T0', V0', t3, t13, t17, t21, t30, t31⟩
        have htn := hG.turns
        by_cases hlt : k < p.turns.toNat
        · have hlt' : (k : Int) < p.turns := by omega
          obtain ⟨q1, q2, q3, q4, q5, q6, q7⟩ := turn_row hg hlt
          rw [← htb'] at q1
          rw [← hlv] at q7
          have hpw := hG.pow5 (n := p.turns.toNat - k) (by omega)
          obtain ⟨sc, hsc⟩ : ∃ t, t = p.pow (p.turns.toNat - k) := ⟨_, rfl⟩
          rw [← hsc] at q2 q3 q4 q5 q6 hpw t30
          obtain ⟨row, hrow⟩ : ∃ t, t = p.rowsN p.bestC (p.turns.toNat - k) := ⟨_, rfl⟩
          rw [← hrow] at q1 q2 q3
          have e1 : IntKind.i64.wrap (p.setup * sc) = p.setup * sc := w64 ⟨by omega, by omega⟩
          have a1 := T0'.at_ k (by omega)
          obtain ⟨y, hy, hY⟩ := T0'.ld k (by omega)
          rw [q1] at hY
          have b1 := kR K0'
          simp (config := {implicitDefEqProofs := false, maxDischargeDepth := 20}) (disch := first | omega | (simp only [lenE]; done) | (simp only [lenE]; omega) | rfl | (simp only [lenE, markR_len]; done) | (simp only [lenE, markR_len]; omega)) only [runE, mapE, listE, initT_5, initT_6, initT_7, initT_8, resV, oneV, binA, unA, reduceCtorEq, Nat.reduceEqDiff, Nat.reduceAdd, Nat.reduceLT, Nat.reduceLeDiff, Nat.reduceMul, Nat.reduceSub, ↓reduceIte, decide_true, decide_false, Bool.true_eq_false, Bool.false_eq_true, Bool.not_true, Bool.not_false, if_true, if_false, and_true, true_and, memE, celE, w64, Nat.zero_add, Nat.add_zero, Nat.mul_one, putL, and_self, ldn, tm, t3, t13, t17, t21, t30, t31, b1, hlt', a1, hy, e1]
          have cv := implConvex_rc _ _ row (p.setup * sc) hY
          rw [q2, q3] at cv
          refine rcallH_rc cv ?_
          clear cv
          intro r new hA
          obtain ⟨hr, nr⟩ := hA
          rw [hr]
          clear hr
          have K1' := Kx new K0'
          have T1' := T0'.ext new
          have V1' := V0'.ext new
          obtain ⟨P1, hP1⟩ : ∃ P, P = M' ++ new := ⟨_, rfl⟩
          rw [← hP1] at K1' T1' V1' ⊢
          clear hP1 nr T0' V0' K0' hY hy a1 b1
          have a1 := T1'.at_ k (by omega)
          obtain ⟨y, hy, hY⟩ := T1'.ld k (by omega)
          rw [q1] at hY
          have b1 := kR K1'
          simp (config := {implicitDefEqProofs := false, maxDischargeDepth := 20}) (disch := first | omega | (simp only [lenE]; done) | (simp only [lenE]; omega) | rfl | (simp only [lenE, markR_len]; done) | (simp only [lenE, markR_len]; omega)) only [runE, mapE, listE, initT_5, initT_6, initT_7, initT_8, resV, oneV, binA, unA, reduceCtorEq, Nat.reduceEqDiff, Nat.reduceAdd, Nat.reduceLT, Nat.reduceLeDiff, Nat.reduceMul, Nat.reduceSub, ↓reduceIte, decide_true, decide_false, Bool.true_eq_false, Bool.false_eq_true, Bool.not_true, Bool.not_false, if_true, if_false, and_true, true_and, memE, celE, w64, Nat.zero_add, Nat.add_zero, Nat.mul_one, putL, and_self, ldn, tm, t3, t13, t17, t21, t30, t31, b1, a1, hy, e1, ext_2_0, ext_2_1, Bool.and_true]
          have cv := specConvex_rc _ _ row (p.setup * sc) hY
          rw [q2, q3] at cv
          refine rcallH_rc cv ?_
          clear cv
          intro r new hA
          obtain ⟨hr, nr⟩ := hA
          have x0 : extA 0 r = some (.bool true) := by rw [hr]; rfl
          have x1 : extA 1 r = some (.bool true) := by rw [hr]; rfl
          clear hr
          have K2' := Kx new K1'
          have T2' := T1'.ext new
          have V2' := V1'.ext new
          obtain ⟨P2, hP2⟩ : ∃ P, P = P1 ++ new := ⟨_, rfl⟩
          rw [← hP2] at K2' T2' V2' ⊢
          clear hP2 nr T1' V1' K1' hY hy a1 b1
          have b1 := kR K2'
          have hwn : ¬ (xw = 0) := by have := hG.pos; omega
          have e2 : sc.tdiv xw = p.pow (p.turns.toNat - (k + 1)) := by rw [hxw']; exact q6
          have hpw2 := hG.pow5 (n := p.turns.toNat - (k + 1)) (by omega)
          have ll : lv.length = p.turns.toNat := by rw [hlv]; unfold levelsA; rw [if_pos hg, levelsL_len]
          obtain ⟨hvb, vi, vf, hve, hvc⟩ := V2'
          have V2' : PairsA P2 Vv lv := ⟨hvb, vi, vf, hve, hvc⟩
          obtain ⟨c1, c2⟩ := hvc k (by omega)
          have ik : iadA 2 (.slice (some ⟨vi, 0, none⟩) lv.length vf) (.int .i64 (k : Int)) = some (.pointer (some ⟨vi, k * 2, none⟩)) := by
            have := iadA_in (id := vi) (off := 0) (n := lv.length) (fl := vf) (sz := 2) (k := .i64) (j := k) (by omega)
            simpa using this
          by_cases h0 : p.setup = 0
          · have h0' : (p.setup == 0) = true := by simp [h0]
            rw [q7 h0] at c1
            simp (config := {implicitDefEqProofs := false, maxDischargeDepth := 20}) (disch := first | omega | (simp only [lenE]; done) | (simp only [lenE]; omega) | rfl | (simp only [lenE, markR_len]; done) | (simp only [lenE, markR_len]; omega)) only [runE, mapE, listE, initT_5, initT_6, initT_7, initT_8, resV, oneV, binA, unA, reduceCtorEq, Nat.reduceEqDiff, Nat.reduceAdd, Nat.reduceLT, Nat.reduceLeDiff, Nat.reduceMul, Nat.reduceSub, ↓reduceIte, decide_true, decide_false, Bool.true_eq_false, Bool.false_eq_true, Bool.not_true, Bool.not_false, if_true, if_false, and_true, true_and, memE, celE, w64, Nat.zero_add, Nat.add_zero, Nat.mul_one, putL, and_self, ldn, tm, t3, t13, t17, t21, t30, t31, b1, x0, x1, Bool.and_true, bne_self_eq_false, beq_self_eq_true, Bool.not_true, Bool.not_false, goG_undef, h0', hve, ik, iada_0, iada_1, c1, c2, hwn, e2]
            exact ⟨⟨k + 1, P2, by omega, rfl, K2', T2', hve ▸ V2', rfl, by simp⟩, by simp [intOf]; omega⟩
          · have h0' : (p.setup == 0) = false := by simp [h0]
            simp (config := {implicitDefEqProofs := false, maxDischargeDepth := 20}) (disch := first | omega | (simp only [lenE]; done) | (simp only [lenE]; omega) | rfl | (simp only [lenE, markR_len]; done) | (simp only [lenE, markR_len]; omega)) only [runE, mapE, listE, initT_5, initT_6, initT_7, initT_8, resV, oneV, binA, unA, reduceCtorEq, Nat.reduceEqDiff, Nat.reduceAdd, Nat.reduceLT, Nat.reduceLeDiff, Nat.reduceMul, Nat.reduceSub, ↓reduceIte, decide_true, decide_false, Bool.true_eq_false, Bool.false_eq_true, Bool.not_true, Bool.not_false, if_true, if_false, and_true, true_and, memE, celE, w64, Nat.zero_add, Nat.add_zero, Nat.mul_one, putL, and_self, ldn, tm, t3, t13, t17, t21, t30, t31, b1, x0, x1, Bool.and_true, bne_self_eq_false, beq_self_eq_true, Bool.not_true, Bool.not_false, goG_undef, h0', hwn, e2]
            exact ⟨⟨k + 1, P2, by omega, rfl, K2', T2', V2', rfl, by simp⟩, by simp [intOf]; omega⟩
        · have hlt' : ¬ ((k : Int) < p.turns) := by omega
          have b1 := kR K0'
          have pf := tab_proof hG
          rw [← htb'] at pf
          simp (config := {implicitDefEqProofs := false, maxDischargeDepth := 20}) (disch := first | omega | (simp only [lenE]; done) | (simp only [lenE]; omega) | rfl | (simp only [lenE, markR_len]; done) | (simp only [lenE, markR_len]; omega)) only [runE, mapE, listE, initT_5, initT_6, initT_7, initT_8, resV, oneV, binA, unA, reduceCtorEq, Nat.reduceEqDiff, Nat.reduceAdd, Nat.reduceLT, Nat.reduceLeDiff, Nat.reduceMul, Nat.reduceSub, ↓reduceIte, decide_true, decide_false, Bool.true_eq_false, Bool.false_eq_true, Bool.not_true, Bool.not_false, if_true, if_false, and_true, true_and, memE, celE, w64, Nat.zero_add, Nat.add_zero, Nat.mul_one, putL, and_self, ldn, tm, t3, t13, t17, t21, t30, t31, b1, hlt']
          have cv := implProof6_rc _ _ _ p tb (kP K0') T0'
          rw [pf, hg] at cv
          refine callH_rc cv ?_
          clear cv
          intro r new hA
          obtain ⟨hr, nr⟩ := hA
          rw [hr]
          clear hr
          simp (config := {implicitDefEqProofs := false, maxDischargeDepth := 20}) (disch := first | omega | (simp only [lenE]; done) | (simp only [lenE]; omega) | rfl | (simp only [lenE, markR_len]; done) | (simp only [lenE, markR_len]; omega)) only [runE, mapE, listE, initT_5, initT_6, initT_7, initT_8, resV, oneV, binA, unA, reduceCtorEq, Nat.reduceEqDiff, Nat.reduceAdd, Nat.reduceLT, Nat.reduceLeDiff, Nat.reduceMul, Nat.reduceSub, ↓reduceIte, decide_true, decide_false, Bool.true_eq_false, Bool.false_eq_true, Bool.not_true, Bool.not_false, if_true, if_false, and_true, true_and, memE, celE, w64, Nat.zero_add, Nat.add_zero, Nat.mul_one, putL, and_self, ldn, tm, t3, t13, t17, t21, t30, t31, ext_2_0, ext_2_1, Bool.and_true, goG_undef]
end Go.Proofs.Ytbchcbhleldhiaa.Ab
end
section
namespace Go.Proofs.Ytbchcbhleldhiaa.Ab
open Go Go.RowKit
set_option linter.unusedVariables false
theorem ws_word : ∀ (p r : List Char), p.all (fun c => c != ' ') = true → wordsSigns (p ++ ' ' :: r) = p :: wordsSigns r
  | [], r, _ => by rw [List.nil_append, wordsSigns]
  | c :: p, r, h => by
    rw [List.all_cons, Bool.and_eq_true] at h
    have hc : c ≠ ' ' := by simpa using h.1
    rw [List.cons_append, wordsSigns, ws_word p r h.2]
    intro e; exact hc e
def sumW : List Char := ['e', 'd', '1', 'a', '6', '5', '2', '5', 'b', 'd', '0', '6', 'b', 'e', 'c', 'c', 'd', '1', '2', 'a', '3', 'd', 'b', 'a', '7', 'f', '0', 'a', '0', 'f', '3', '0', '1', '4', 'a', 'e', 'c', '6', '0', '0', 'a', 'f', 'e', 'b', 'b', '0', '3', '5', '6', '8', 'f', '2', 'b', 'e', '0', '4', 'f', 'e', '8', '5', '0', '2', 'c', '2']
def restW : List Char := ['a', 't', ' ', 'l', 'o', 'o', 'p', '.', 'e', 'x', 'a', 'm', 'p', 'l', 'e', '/', 'g', '0', '1', '1', '1', '1', '/', 'l', 'a', 'w', 's', '.', 'F', 'n', 'W', 'o', 'r', 't', 'h', 's', ' ', 'l', 'o', 'o', 'p', '.', 'e', 'x', 'a', 'm', 'p', 'l', 'e', '/', 'g', '0', '1', '1', '1', '1', '/', 'l', 'a', 'w', 's', '.', 'F', 'n', 'L', 'e', 'v', 'e', 'l', 's']
set_option maxRecDepth 100000 in
theorem head_is : Try.prog.initOrder = String.ofList (['h', 'a', 'r', 'n', 'e', 's', 's'] ++ ' ' :: (sumW ++ ' ' :: (['c', 'u', 't'] ++ ' ' :: restW))) := by kernel_rfl
set_option maxRecDepth 100000 in
theorem sum_ok : isSumSigns sumW = true := by kernel_rfl
theorem head_words : behindMainWord (wordsSigns Try.prog.initOrder.toList) = ['c', 'u', 't'] :: wordsSigns restW := by
  rw [head_is, String.toList_ofList, ws_word _ _ (by decide), ws_word _ _ (by decide), ws_word _ _ (by decide)]
  simp only [behindMainWord, sum_ok, Bool.and_true]
  rfl
set_option maxRecDepth 100000 in
theorem strip_cut (X : List (List Char)) : stripLifts liftWords (['c', 'u', 't'] :: X) = ([], ['c', 'u', 't'] :: X) := by kernel_rfl
theorem lifts_gen (P : Program) (X : List (List Char)) (h : behindMainWord (wordsSigns P.initOrder.toList) = ['c', 'u', 't'] :: X) : P.headLifts = [] := by
  unfold Program.headLifts
  rw [h, strip_cut]
  rfl
theorem enters_gen (P : Program) (X : List (List Char)) (h : behindMainWord (wordsSigns P.initOrder.toList) = ['c', 'u', 't'] :: X) (h1 : P.laysLater = false) (h2 : P.bearsReflect = false) (h3 : P.doorFits [] = true) : P.mayEnter = true := by
  unfold Program.mayEnter
  rw [h]
  simp only [strip_cut, h1, h2, h3]
  rfl
theorem finals_gen (P : Program) (X : List (List Char)) (h : behindMainWord (wordsSigns P.initOrder.toList) = ['c', 'u', 't'] :: X) : P.liftsFinal = false := by
  unfold Program.liftsFinal
  rw [lifts_gen P X h, h]
  rfl
theorem make_gen (P : Program) (X : List (List Char)) (h : behindMainWord (wordsSigns P.initOrder.toList) = ['c', 'u', 't'] :: X) : P.make = some .cut := by
  unfold Program.make
  rw [h]
  rfl
set_option maxRecDepth 100000 in
theorem enters : Try.prog.mayEnter = true := enters_gen _ _ head_words (by kernel_rfl) (by kernel_rfl) (by kernel_rfl)
theorem no_finals : Try.prog.liftsFinal = false := finals_gen _ _ head_words
theorem makes : Try.prog.make = some .cut := make_gen _ _ head_words
end Go.Proofs.Ytbchcbhleldhiaa.Ab
end
