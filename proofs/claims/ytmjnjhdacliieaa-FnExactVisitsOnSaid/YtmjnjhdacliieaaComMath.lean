/- Common cycles: what they take and cost, the least that fits, which one is cheaper. -/
import Derived.Test.YtmjnjhdacliieaaItemIn
namespace Go.Proofs.Ytmjnjhdacliieaa
set_option linter.unusedVariables false

theorem addF_r {p : Int × Int} {c d : Int} (h1 : 0 ≤ p.1) (h2 : 0 < p.2) (hc : 0 ≤ c) (hd : 0 < d) : addF p (fr c d) = fr (p.1 * d + c * p.2) (p.2 * d) := by
  have e := fr_cross hc hd
  have n := fr_nn hc hd
  have k := fr_pos hc hd
  unfold addF
  generalize fr c d = q at *
  refine fr_eq (Int.add_nonneg (Int.mul_nonneg h1 (by omega)) (Int.mul_nonneg n (by omega))) (Int.mul_pos h2 k) (Int.add_nonneg (Int.mul_nonneg h1 (by omega)) (Int.mul_nonneg hc (by omega))) (Int.mul_pos h2 hd) ?_
  grind
theorem fr_one {c : Int} (hc : 0 ≤ c) : fr c 1 = (c, 1) := by
  have h := fr_spec hc (b := 1) (by decide)
  have e2 : (fr c 1).2 = 1 := by omega
  have e1 : (fr c 1).1 = c := by
    have := h.2.2.1
    rw [e2] at this
    omega
  exact Prod.ext e1 e2
/-- Two sums are one. -/
theorem add_two {p : Int × Int} {a b m : Int} (h1 : 0 ≤ p.1) (h2 : 0 < p.2) (ha : 0 ≤ a) (hb : 0 ≤ b) (hm : 0 < m) : addF (addF p (fr a 1)) (fr b m) = addF p (fr (a * m + b) m) := by
  have i1 := Int.mul_nonneg h1 (by decide : (0 : Int) ≤ 1)
  have i2 := Int.mul_nonneg ha (Int.le_of_lt h2)
  have i3 := Int.mul_nonneg ha (Int.le_of_lt hm)
  have i4 := Int.mul_pos h2 (by decide : (0 : Int) < 1)
  rw [addF_r h1 h2 ha (by decide), addF_fr (by omega) i4 hb hm, addF_r h1 h2 (by omega) hm]
  refine congr (congrArg _ ?_) ?_ <;> grind

/-- The product of what is made a day, of so many. -/
def prodM (L : List It) : Nat → Int
  | 0 => 1
  | n + 1 => prodM L n * (L.getD n It0).made
/-- What so many of a family take of a cycle. -/
def takenTo (L : List It) (c : Int) : Nat → Int × Int
  | 0 => (0, 1)
  | n + 1 => addF (takenTo L c n) (fr ((L.getD n It0).pause * (L.getD n It0).made + (L.getD n It0).daily * c) (L.getD n It0).made)
def sharedTo (L : List It) (c : Int) : Nat → Int × Int
  | 0 => (0, 1)
  | n + 1 => addF (addF (sharedTo L c n) (fr (L.getD n It0).setup c)) (fr ((L.getD n It0).hold * (L.getD n It0).daily * ((L.getD n It0).made - (L.getD n It0).daily) * c) (2 * (L.getD n It0).made))
def growTo (L : List It) : Nat → Int × Int
  | 0 => (0, 1)
  | n + 1 => addF (growTo L n) (fr ((L.getD n It0).hold * (L.getD n It0).daily * ((L.getD n It0).made - (L.getD n It0).daily)) (2 * (L.getD n It0).made))
def setupTo (L : List It) : Nat → Int
  | 0 => 0
  | n + 1 => setupTo L n + (L.getD n It0).setup
theorem GoodF.at_ {L : List It} (h : GoodF L) {k : Nat} (hk : k < L.length) : GoodI (L.getD k It0) := h.all k hk
theorem prodM_pos {L : List It} (h : GoodF L) (n : Nat) (hn : n ≤ L.length) : 1 ≤ prodM L n := by
  induction n with
  | zero => simp [prodM]
  | succ n ih =>
    have g := h.at_ (k := n) (by omega)
    have := ih (by omega)
    have e := Int.mul_le_mul this (show (1 : Int) ≤ (L.getD n It0).made by have := g.made; have := g.daily; omega) (by decide) (by omega)
    simpa [prodM] using e
theorem prodM_le {L : List It} (h : GoodF L) (n : Nat) (hn : n ≤ L.length) : prodM L n ≤ 40 ^ n := by
  induction n with
  | zero => simp [prodM]
  | succ n ih =>
    have g := h.at_ (k := n) (by omega)
    have := ih (by omega)
    have p := prodM_pos h n (by omega)
    have e := Int.mul_le_mul this g.made.2 (by have := g.made; have := g.daily; omega) (Int.pow_nonneg (by decide))
    simpa [prodM, Int.pow_succ] using e
theorem prodM_bd {L : List It} (h : GoodF L) (n : Nat) (hn : n ≤ L.length) : 1 ≤ prodM L n ∧ prodM L n ≤ 2560000 := by
  have hl := h.len
  have h1 := prodM_pos h n hn
  have h2 := prodM_le h n hn
  have : n = 0 ∨ n = 1 ∨ n = 2 ∨ n = 3 ∨ n = 4 := by omega
  have p0 : (40 : Int) ^ 0 = 1 := by decide
  have p1 : (40 : Int) ^ 1 = 40 := by decide
  have p2 : (40 : Int) ^ 2 = 1600 := by decide
  have p3 : (40 : Int) ^ 3 = 64000 := by decide
  have p4 : (40 : Int) ^ 4 = 2560000 := by decide
  rcases this with rfl | rfl | rfl | rfl | rfl <;> omega
theorem made_dvd (L : List It) (k n : Nat) (hk : k < n) : (L.getD k It0).made ∣ prodM L n := by
  induction n with
  | zero => omega
  | succ n ih =>
    by_cases e : k = n
    · subst e; exact ⟨prodM L k, by simp [prodM, Int.mul_comm]⟩
    · exact Int.dvd_trans (ih (by omega)) ⟨(L.getD n It0).made, rfl⟩
theorem GoodI.hdm {x : It} (h : GoodI x) : 0 ≤ x.hold * x.daily * (x.made - x.daily) ∧ x.hold * x.daily * (x.made - x.daily) ≤ 7020 ∧ x.hold * x.daily * (x.made - x.daily) ≤ 180 * x.made := by
  have h0 := h.hd
  have h1 := h.made
  have h2 := h.daily
  have m1 := mul_le2 (a := x.hold * x.daily) (x := x.made - x.daily) (A := 180) (B := 39) (by omega) (by omega)
  have m2 := mul_le2 (a := x.hold * x.daily) (x := x.made - x.daily) (A := 180) (B := x.made) (by omega) (by omega)
  omega
theorem taken_part {x : It} (h : GoodI x) {c : Int} (hc : 1 ≤ c ∧ c ≤ 400) : 0 ≤ x.pause * x.made ∧ x.pause * x.made ≤ 360 ∧ 0 ≤ x.daily * c ∧ x.daily * c ≤ 8000 ∧ x.pause * x.made + x.daily * c ≤ 409 * x.made := by
  have h1 := h.made
  have h2 := h.daily
  have h3 := h.pause
  have m1 := mul_le2 (a := x.pause) (x := x.made) (A := 9) (B := 40) (by omega) (by omega)
  have m2 := mul_le2 (a := x.daily) (x := c) (A := 20) (B := 400) (by omega) (by omega)
  have m3 := mul_le2 (a := x.pause) (x := x.made) (A := 9) (B := x.made) (by omega) (by omega)
  have m4 := mul_le2 (a := x.daily) (x := c) (A := x.made) (B := 400) (by omega) (by omega)
  omega
theorem taken_bd {L : List It} (h : GoodF L) {c : Int} (hc : 1 ≤ c ∧ c ≤ 400) (n : Nat) (hn : n ≤ L.length) : Bd (prodM L L.length) (409 * n) (takenTo L c n) := by
  have hD := (prodM_bd h L.length (Nat.le_refl _)).1
  induction n with
  | zero => exact Bd.zero
  | succ n ih =>
    have g := h.at_ (k := n) (by omega)
    have t := taken_part g hc
    have hm := g.made
    have hd := g.daily
    refine (Bd.add (by omega) (ih (by omega)) (Bd.fr (V := 409) (by omega) (by omega) (made_dvd L n L.length (by omega)) (by omega))).mono ?_
    push_cast; omega
theorem shared_bd {L : List It} (h : GoodF L) {c : Int} (hc : 1 ≤ c ∧ c ≤ 400) (n : Nat) (hn : n ≤ L.length) : Bd (2 * c * prodM L L.length) (36099 * n) (sharedTo L c n) ∧ (n < L.length → Bd (2 * c * prodM L L.length) (36099 * n + 99) (addF (sharedTo L c n) (fr (L.getD n It0).setup c))) := by
  have hD := (prodM_bd h L.length (Nat.le_refl _)).1
  have hDp : 0 < 2 * c * prodM L L.length := Int.mul_pos (by omega) (by omega)
  have key : ∀ n, n < L.length → Bd (2 * c * prodM L L.length) 99 (fr (L.getD n It0).setup c) := fun n hn => by
    have g := (h.at_ hn).setup
    refine Bd.fr (by omega) (by omega) ⟨2 * prodM L L.length, by grind⟩ ?_
    have := mul_le2 (a := (99 : Int)) (x := c) (A := 99) (B := c) (by omega) (by omega)
    omega
  induction n with
  | zero => exact ⟨Bd.zero, fun hn => ((Bd.add hDp Bd.zero (key 0 hn)).mono (by omega))⟩
  | succ n ih =>
    have g := h.at_ (k := n) (by omega)
    have hm := g.made
    have hd := g.daily
    have hh := g.hdm
    have e : Bd (2 * c * prodM L L.length) 36000 (fr ((L.getD n It0).hold * (L.getD n It0).daily * ((L.getD n It0).made - (L.getD n It0).daily) * c) (2 * (L.getD n It0).made)) := by
      obtain ⟨q, hq⟩ := made_dvd L n L.length (by omega)
      refine Bd.fr (Int.mul_nonneg hh.1 (by omega)) (by omega) ⟨c * q, by rw [hq]; grind⟩ ?_
      have := mul_le2 (a := (L.getD n It0).hold * (L.getD n It0).daily * ((L.getD n It0).made - (L.getD n It0).daily)) (x := c) (A := 180 * (L.getD n It0).made) (B := 400) (by omega) (by omega)
      omega
    have s := (Bd.add hDp ((ih (by omega)).2 (by omega)) e).mono (U := 36099 * ((n + 1 : Nat) : Int)) (by push_cast; omega)
    exact ⟨s, fun hn => (Bd.add hDp s (key (n + 1) hn))⟩
theorem grow_bd {L : List It} (h : GoodF L) (n : Nat) (hn : n ≤ L.length) : Bd (2 * prodM L L.length) (90 * n) (growTo L n) := by
  have hD := (prodM_bd h L.length (Nat.le_refl _)).1
  induction n with
  | zero => exact Bd.zero
  | succ n ih =>
    have g := h.at_ (k := n) (by omega)
    have hm := g.made
    have hd := g.daily
    have hh := g.hdm
    obtain ⟨q, hq⟩ := made_dvd L n L.length (by omega)
    refine (Bd.add (by omega) (ih (by omega)) (Bd.fr (V := 90) hh.1 (by omega) ⟨q, by rw [hq]; grind⟩ (by omega))).mono ?_
    push_cast; omega
/-! The sums, without their common divisors. -/
def pausTo (L : List It) : Nat → Int
  | 0 => 0
  | n + 1 => pausTo L n * (L.getD n It0).made + (L.getD n It0).pause * (L.getD n It0).made * prodM L n
def rateTo (L : List It) : Nat → Int
  | 0 => 0
  | n + 1 => rateTo L n * (L.getD n It0).made + (L.getD n It0).daily * prodM L n
theorem sums_nn {L : List It} (h : GoodF L) (n : Nat) (hn : n ≤ L.length) : 0 ≤ pausTo L n ∧ 0 ≤ rateTo L n := by
  induction n with
  | zero => exact ⟨by simp [pausTo], by simp [rateTo]⟩
  | succ n ih =>
    have g := h.at_ (k := n) (by omega)
    have hm := g.made
    have hd := g.daily
    have hp := g.pause
    have p := prodM_pos h n (by omega)
    have i := ih (by omega)
    exact ⟨Int.add_nonneg (Int.mul_nonneg i.1 (by omega)) (Int.mul_nonneg (Int.mul_nonneg (by omega) (by omega)) (by omega)), Int.add_nonneg (Int.mul_nonneg i.2 (by omega)) (Int.mul_nonneg (by omega) (by omega))⟩
theorem taken_form {L : List It} (h : GoodF L) {c : Int} (hc : 1 ≤ c ∧ c ≤ 400) (n : Nat) (hn : n ≤ L.length) : takenTo L c n = fr (pausTo L n + rateTo L n * c) (prodM L n) := by
  induction n with
  | zero => simp [takenTo, pausTo, rateTo, prodM, fr_zero]
  | succ n ih =>
    have g := h.at_ (k := n) (by omega)
    have hm := g.made
    have hd := g.daily
    have p := prodM_pos h n (by omega)
    have s := sums_nn h n (by omega)
    have t := taken_part g hc
    have r0 := Int.mul_nonneg s.2 (show (0 : Int) ≤ c by omega)
    rw [takenTo, ih (by omega), addF_fr (by omega) (by omega) (by omega) (by omega), pausTo, rateTo, prodM]
    refine congr (congrArg _ ?_) ?_ <;> grind
def fitsB (L : List It) (c : Int) : Bool := decide ((takenTo L c L.length).1 ≤ c * (takenTo L c L.length).2)
theorem fits_form {L : List It} (h : GoodF L) {c : Int} (hc : 1 ≤ c ∧ c ≤ 400) : fitsB L c = true ↔ pausTo L L.length + rateTo L L.length * c ≤ c * prodM L L.length := by
  have p := prodM_pos h L.length (Nat.le_refl _)
  have s := sums_nn h L.length (Nat.le_refl _)
  have r0 := Int.mul_nonneg s.2 (show (0 : Int) ≤ c by omega)
  unfold fitsB
  rw [taken_form h hc L.length (Nat.le_refl _), decide_eq_true_eq]
  have e := fr_cross (a := pausTo L L.length + rateTo L L.length * c) (b := prodM L L.length) (by omega) (by omega)
  have k := fr_pos (a := pausTo L L.length + rateTo L L.length * c) (b := prodM L L.length) (by omega) (by omega)
  generalize fr (pausTo L L.length + rateTo L L.length * c) (prodM L L.length) = q at *
  generalize pausTo L L.length + rateTo L L.length * c = A at *
  generalize prodM L L.length = D at *
  constructor
  · intro hle
    have := Int.mul_le_mul_of_nonneg_right hle (show (0 : Int) ≤ D by omega)
    rw [e] at this
    have e2 : c * q.2 * D = (c * D) * q.2 := by grind
    rw [e2] at this
    exact Int.le_of_mul_le_mul_right this k
  · intro hle
    have := Int.mul_le_mul_of_nonneg_right hle (Int.le_of_lt k)
    rw [← e] at this
    have e2 : (c * D) * q.2 = c * q.2 * D := by grind
    rw [e2] at this
    exact Int.le_of_mul_le_mul_right this (by omega)
/-- All greater ones fit, too. -/
theorem fits_up {L : List It} (h : GoodF L) {c : Int} (hc : 1 ≤ c ∧ c + 1 ≤ 400) (hf : fitsB L c = true) : fitsB L (c + 1) = true := by
  rw [fits_form h (by omega)] at hf ⊢
  have s := sums_nn h L.length (Nat.le_refl _)
  generalize pausTo L L.length = P at *
  generalize rateTo L L.length = R at *
  generalize prodM L L.length = D at *
  have hRD : R ≤ D := by
    by_cases hlt : D < R
    · have : c * D < c * R := Int.mul_lt_mul_of_pos_left hlt (by omega)
      have e : R * c = c * R := Int.mul_comm _ _
      omega
    · omega
  have e1 : R * (c + 1) = R * c + R := by grind
  have e2 : (c + 1) * D = c * D + D := by grind
  omega
theorem setup_nn {L : List It} (h : GoodF L) (n : Nat) (hn : n ≤ L.length) : 0 ≤ setupTo L n ∧ setupTo L n ≤ 99 * n := by
  induction n with
  | zero => simp [setupTo]
  | succ n ih =>
    have g := (h.at_ (k := n) (by omega)).setup
    have := ih (by omega)
    simp only [setupTo]
    push_cast
    omega
/-- The common cost in one fraction. -/
theorem shared_form {L : List It} (h : GoodF L) {c : Int} (hc : 1 ≤ c ∧ c ≤ 400) (n : Nat) (hn : n ≤ L.length) : sharedTo L c n = fr (setupTo L n * (growTo L n).2 + (growTo L n).1 * c * c) (c * (growTo L n).2) := by
  induction n with
  | zero =>
    have : fr (0 * 1 + 0 * c * c) (c * 1) = (0, 1) := by
      rw [← fr_zero]
      exact fr_eq (by simp) (by omega) (by decide) (by decide) (by simp)
    simpa [sharedTo, setupTo, growTo] using this.symm
  | succ n ih =>
    have g := h.at_ (k := n) (by omega)
    have hm := g.made
    have hd := g.daily
    have hs := g.setup
    have hh := g.hdm
    have hb := grow_bd h n (by omega)
    have hb2 := grow_bd h (n + 1) hn
    have hsn := setup_nn h n (by omega)
    have n1 := hb.nn
    have n2 := hb.pos
    have n3 := hb2.nn
    have n4 := hb2.pos
    have e := addF_r (p := growTo L n) n1 n2 hh.1 (show (0 : Int) < 2 * (L.getD n It0).made by omega)
    have x1 : 0 ≤ (growTo L n).1 * (2 * (L.getD n It0).made) + (L.getD n It0).hold * (L.getD n It0).daily * ((L.getD n It0).made - (L.getD n It0).daily) * (growTo L n).2 := Int.add_nonneg (Int.mul_nonneg n1 (by omega)) (Int.mul_nonneg hh.1 (by omega))
    have x2 : 0 < (growTo L n).2 * (2 * (L.getD n It0).made) := Int.mul_pos n2 (by omega)
    have cr := fr_cross x1 x2
    rw [← e] at cr
    rw [show addF (growTo L n) (fr ((L.getD n It0).hold * (L.getD n It0).daily * ((L.getD n It0).made - (L.getD n It0).daily)) (2 * (L.getD n It0).made)) = growTo L (n + 1) from rfl] at cr
    rw [sharedTo, ih (by omega), setupTo]
    generalize (L.getD n It0).hold * (L.getD n It0).daily * ((L.getD n It0).made - (L.getD n It0).daily) = q at *
    generalize growTo L (n + 1) = G at *
    generalize growTo L n = g0 at *
    generalize setupTo L n = S at *
    generalize (L.getD n It0).setup = s at *
    generalize (L.getD n It0).made = M at *
    have y1 : 0 ≤ S * g0.2 + g0.1 * c * c := Int.add_nonneg (Int.mul_nonneg hsn.1 (by omega)) (Int.mul_nonneg (Int.mul_nonneg n1 (by omega)) (by omega))
    have y2 : 0 < c * g0.2 := Int.mul_pos (by omega) n2
    have y3 : 0 ≤ (S * g0.2 + g0.1 * c * c) * c + s * (c * g0.2) := Int.add_nonneg (Int.mul_nonneg y1 (by omega)) (Int.mul_nonneg (by omega) (by omega))
    have y4 : 0 < c * g0.2 * c := Int.mul_pos y2 (by omega)
    have y5 : 0 ≤ q * c := Int.mul_nonneg hh.1 (by omega)
    have y6 : (0 : Int) < 2 * M := by omega
    have y7 : 0 ≤ (S + s) * G.2 + G.1 * c * c := Int.add_nonneg (Int.mul_nonneg (by omega) (by omega)) (Int.mul_nonneg (Int.mul_nonneg n3 (by omega)) (by omega))
    have y8 : 0 < c * G.2 := Int.mul_pos (by omega) n4
    rw [addF_fr y1 y2 (by omega) (by omega), addF_fr y3 y4 y5 y6]
    refine fr_eq (Int.add_nonneg (Int.mul_nonneg y3 (by omega)) (Int.mul_nonneg y5 (by omega))) (Int.mul_pos y4 y6) y7 y8 ?_
    clear y1 y2 y3 y4 y5 y6 y7 y8 x1 x2 e ih hb hb2
    grind
def sharedF (L : List It) (c : Int) : Int × Int := sharedTo L c L.length
def cheaperB (L : List It) (a b : Int) : Bool := decide (setupTo L L.length * (growTo L L.length).2 * b + (growTo L L.length).1 * a * a * b < setupTo L L.length * (growTo L L.length).2 * a + (growTo L L.length).1 * b * b * a)
theorem cheaper_less {L : List It} (h : GoodF L) {a b : Int} (ha : 1 ≤ a ∧ a ≤ 400) (hb : 1 ≤ b ∧ b ≤ 400) : cheaperB L a b = lessF (sharedF L a) (sharedF L b) := by
  have g := grow_bd h L.length (Nat.le_refl _)
  have s := setup_nn h L.length (Nat.le_refl _)
  have n1 := g.nn
  have n2 := g.pos
  unfold cheaperB sharedF
  rw [shared_form h ha L.length (Nat.le_refl _), shared_form h hb L.length (Nat.le_refl _)]
  generalize growTo L L.length = q at *
  generalize setupTo L L.length = S at *
  have y1 : ∀ c : Int, 1 ≤ c → 0 ≤ S * q.2 + q.1 * c * c := fun c hc => Int.add_nonneg (Int.mul_nonneg s.1 (by omega)) (Int.mul_nonneg (Int.mul_nonneg n1 (by omega)) (by omega))
  have y2 : ∀ c : Int, 1 ≤ c → 0 < c * q.2 := fun c hc => Int.mul_pos (by omega) n2
  rw [lessF_fr (y1 a ha.1) (y2 a ha.1) (y1 b hb.1) (y2 b hb.1)]
  congr 1
  apply propext
  have e1 : (S * q.2 + q.1 * a * a) * (b * q.2) = (S * q.2 * b + q.1 * a * a * b) * q.2 := by grind
  have e2 : (S * q.2 + q.1 * b * b) * (a * q.2) = (S * q.2 * a + q.1 * b * b * a) * q.2 := by grind
  rw [e1, e2]
  constructor
  · intro hl; exact Int.mul_lt_mul_of_pos_right hl n2
  · intro hl; exact Int.lt_of_mul_lt_mul_right hl (Int.le_of_lt n2)
/-! The cycles that fit. -/
def fitL (L : List It) : List Int := (upFrom 1 400).filter (fitsB L)
theorem fit_tail {L : List It} (h : GoodF L) (n : Nat) : ∀ (a : Int), 1 ≤ a → a + n ≤ 401 → (fitsB L a = true ∨ n = 0) → (upFrom a n).filter (fitsB L) = upFrom a n := by
  induction n with
  | zero => intro a _ _ _; rfl
  | succ n ih =>
    intro a ha hn hf
    have hf : fitsB L a = true := by rcases hf with hf | hf; exact hf; omega
    rw [upFrom, List.filter_cons_of_pos hf]
    congr 1
    refine ih (a + 1) (by omega) (by push_cast at hn ⊢; omega) ?_
    rcases Nat.eq_zero_or_pos n with e | e
    · exact .inr e
    · exact .inl (fits_up h ⟨ha, by push_cast at hn; omega⟩ hf)
theorem fit_range {L : List It} (h : GoodF L) (n : Nat) : ∀ (a : Int), 1 ≤ a → a + n ≤ 401 → (upFrom a n).filter (fitsB L) = [] ∨ ∃ b k, a ≤ b ∧ b + ((k + 1 : Nat) : Int) = a + n ∧ (upFrom a n).filter (fitsB L) = upFrom b (k + 1) := by
  induction n with
  | zero => intro a _ _; exact .inl rfl
  | succ n ih =>
    intro a ha hn
    cases hf : fitsB L a with
    | true => exact .inr ⟨a, n, Int.le_refl _, rfl, fit_tail h (n + 1) a ha hn (.inl hf)⟩
    | false =>
      rw [upFrom, List.filter_cons_of_neg (by simp [hf])]
      rcases ih (a + 1) (by omega) (by push_cast at hn ⊢; omega) with h0 | ⟨b, k, h1, h2, h3⟩
      · exact .inl h0
      · exact .inr ⟨b, k, by omega, by push_cast at h2 ⊢; omega, h3⟩
theorem fitL_form {L : List It} (h : GoodF L) : fitL L = [] ∨ ∃ b k, 1 ≤ b ∧ b + ((k + 1 : Nat) : Int) = 401 ∧ fitL L = upFrom b (k + 1) := by
  rcases fit_range h 400 1 (by omega) (by omega) with h0 | ⟨b, k, h1, h2, h3⟩
  · exact .inl h0
  · exact .inr ⟨b, k, h1, by omega, h3⟩
theorem fitL_in {L : List It} {c : Int} (hc : c ∈ fitL L) : 1 ≤ c ∧ c ≤ 400 := by
  have := (List.mem_filter.1 hc).1
  have := upFrom_mem.1 this
  omega
end Go.Proofs.Ytmjnjhdacliieaa
