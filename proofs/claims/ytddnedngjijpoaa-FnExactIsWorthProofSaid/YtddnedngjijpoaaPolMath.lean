/- Policies as lists of integers: processes, moves and what they cost, the best move, rows of worths from the last turn back. -/
import Derived.Test.YtddnedngjijpoaaChMath
namespace Go.Proofs.Ytddnedngjijpoaa
set_option linter.unusedVariables false

/-- A process. -/
structure Pr where
  turns : Int
  w : List Int
  setup : Int
  unit : Int
  hold : Int
  back : Int
def Pr.whole (p : Pr) : Int := sumTo p.w p.w.length
def inZ (most x : Int) : Bool := decide (0 ≤ x) && decide (x ≤ most)
def Pr.wB (w : List Int) : Bool := decide (w.length ≤ 5) && rowB w w.length 4 && decide (0 < sumTo w w.length)
def Pr.good (p : Pr) : Bool := inZ 5 p.turns && Pr.wB p.w && inZ 99 p.setup && inZ 9 p.unit && inZ 9 p.hold && inZ 9 p.back
structure GoodP (p : Pr) : Prop where
  turns : 0 ≤ p.turns ∧ p.turns ≤ 5
  len : 1 ≤ p.w.length ∧ p.w.length ≤ 5
  wt : ∀ x ∈ p.w, 0 ≤ x ∧ x ≤ 4
  pos : 1 ≤ p.whole ∧ p.whole ≤ 20
  setup : 0 ≤ p.setup ∧ p.setup ≤ 99
  unit : 0 ≤ p.unit ∧ p.unit ≤ 9
  hold : 0 ≤ p.hold ∧ p.hold ≤ 9
  back : 0 ≤ p.back ∧ p.back ≤ 9
theorem goodP_iff {p : Pr} : p.good = true ↔ GoodP p := by
  simp only [Pr.good, Pr.wB, inZ, Bool.and_eq_true, decide_eq_true_eq, rowB_iff]
  constructor
  · rintro ⟨⟨⟨⟨⟨h1, ⟨h2, h3, _⟩, h4⟩, h5⟩, h6⟩, h7⟩, h8⟩
    have hs := sumTo_bound (l := p.w) (m := 4) (by decide) h3 p.w.length
    refine ⟨h1, ⟨?_, h2⟩, h3, ⟨h4, ?_⟩, h5, h6, h7, h8⟩
    · rcases Nat.eq_zero_or_pos p.w.length with e | e
      · rw [e, sumTo_zero] at h4; omega
      · exact e
    · unfold Pr.whole; omega
  · intro h
    exact ⟨⟨⟨⟨⟨h.turns, ⟨h.len.2, h.wt, trivial⟩, by have := h.pos; unfold Pr.whole at this; omega⟩, h.setup⟩, h.unit⟩, h.hold⟩, h.back⟩
theorem GoodP.at_ {p : Pr} (h : GoodP p) (k : Nat) : 0 ≤ p.w.getD k 0 ∧ p.w.getD k 0 ≤ 4 := by
  by_cases hk : k < p.w.length
  · rw [List.getD_eq_getElem?_getD, List.getElem?_eq_getElem hk]; exact h.wt _ (List.getElem_mem hk)
  · rw [List.getD_eq_getElem?_getD, List.getElem?_eq_none (by omega)]; exact ⟨by decide, by decide⟩
theorem GoodP.sum {p : Pr} (h : GoodP p) (k : Nat) : 0 ≤ sumTo p.w k ∧ sumTo p.w k ≤ 4 * k := sumTo_bound (by decide) h.wt k

/-- The whole to the power of n. -/
def Pr.pow (p : Pr) : Nat → Int
  | 0 => 1
  | n + 1 => p.pow n * p.whole
theorem mul_in' {a x A B : Int} (h1 : 0 ≤ a ∧ a ≤ A) (h2 : 0 ≤ x ∧ x ≤ B) : 0 ≤ a * x ∧ a * x ≤ A * B := by
  refine ⟨Int.mul_nonneg h1.1 h2.1, ?_⟩
  have a1 : a * x ≤ A * x := Int.mul_le_mul_of_nonneg_right h1.2 h2.1
  have a2 : A * x ≤ A * B := Int.mul_le_mul_of_nonneg_left h2.2 (by omega)
  omega
theorem GoodP.pow {p : Pr} (h : GoodP p) (n : Nat) : 1 ≤ p.pow n ∧ p.pow n ≤ 20 ^ n := by
  induction n with
  | zero => simp [Pr.pow]
  | succ n ih =>
    have hp := h.pos
    have h1 := mul_in' (a := p.pow n) (x := p.whole) (A := 20 ^ n) (B := 20) (by omega) (by omega)
    have h2 : 1 * 1 ≤ p.pow n * p.whole := Int.mul_le_mul ih.1 hp.1 (by decide) (by omega)
    rw [Pr.pow, Int.pow_succ]
    omega
theorem GoodP.pow5 {p : Pr} (h : GoodP p) {n : Nat} (hn : n ≤ 5) : 1 ≤ p.pow n ∧ p.pow n ≤ 3200000 := by
  have h1 := h.pow n
  have : n = 0 ∨ n = 1 ∨ n = 2 ∨ n = 3 ∨ n = 4 ∨ n = 5 := by omega
  rcases this with rfl | rfl | rfl | rfl | rfl | rfl <;> simp at h1 ⊢ <;> omega
/-- The floor. -/
def Pr.floor (p : Pr) : Int := p.w.length - 1 - 10
theorem GoodP.floor {p : Pr} (h : GoodP p) : -10 ≤ p.floor ∧ p.floor ≤ -6 := by
  have := h.len
  unfold Pr.floor; omega
/-- What a level costs behind a turn. -/
def Pr.kept (p : Pr) (x : Int) : Int := if 0 < x then p.hold * x else -p.back * x
theorem GoodP.kept {p : Pr} (h : GoodP p) {x : Int} (hx : -10 ≤ x ∧ x ≤ 10) : 0 ≤ p.kept x ∧ p.kept x ≤ 90 := by
  unfold Pr.kept
  by_cases hp : 0 < x
  · rw [if_pos hp]; exact mul_in' (A := 9) (B := 10) h.hold (by omega)
  · rw [if_neg hp, Int.neg_mul, ← Int.mul_neg]; exact mul_in' (A := 9) (B := 10) h.back (by omega)
/-- What follows the order for d pieces, with n turns behind this one. -/
def Pr.part (p : Pr) (next : List Int) (y : Int) (n : Nat) (d : Nat) : Int := p.kept (y - d) * p.pow n + next.getD (y - d + 10).toNat 0
/-- What follows an order up to y, with n turns behind this one. -/
def Pr.after (p : Pr) (next : List Int) (y : Int) (n : Nat) : Int := wsum p.w (p.part next y n) p.w.length
def Pr.ord (p : Pr) (x y : Int) : Int := if x < y then p.setup + p.unit * (y - x) else 0
/-- A move and all that follows, with n turns behind this one. -/
def Pr.move (p : Pr) (next : List Int) (x y : Int) (n : Nat) : Int := p.ord x y * p.pow (n + 1) + p.after next y n
def Pr.bill (p : Pr) (next : List Int) (y : Int) (n : Nat) : Int := p.unit * y * p.pow (n + 1) + p.after next y n
def Pr.lo (p : Pr) (x : Int) : Int := max x p.floor
/-- All numbers of a row lie within -B..B. -/
def rowIn (B : Int) (next : List Int) : Prop := ∀ k, k < 21 → -B ≤ next.getD k 0 ∧ next.getD k 0 ≤ B
theorem GoodP.part {p : Pr} (h : GoodP p) {next : List Int} {B : Int} (hB : rowIn B next) {y : Int} {n d : Nat} (hn : n ≤ 4) (h1 : -10 ≤ y - d) (h2 : y - d ≤ 10) :
    0 ≤ p.kept (y - d) * p.pow n ∧ p.kept (y - d) * p.pow n ≤ 288000000 ∧ -B ≤ p.part next y n d ∧ p.part next y n d ≤ 288000000 + B := by
  have hq := h.pow5 (n := n) (by omega)
  have a := mul_in' (A := 90) (B := 3200000) (h.kept ⟨h1, h2⟩) (x := p.pow n) (by omega)
  have b := hB (y - d + 10).toNat (by omega)
  unfold Pr.part
  refine ⟨a.1, by omega, ?_, ?_⟩ <;> omega
theorem wt_in {x y B C : Int} (h1 : 0 ≤ x ∧ x ≤ 4) (h2 : -B ≤ y ∧ y ≤ C) (hB : 0 ≤ B) (hC : 0 ≤ C) : -(4 * B) ≤ x * y ∧ x * y ≤ 4 * C := by
  rcases Int.le_total 0 y with hy | hy
  · have := mul_in' (a := x) (x := y) (A := 4) (B := C) h1 ⟨hy, h2.2⟩; omega
  · have := mul_in' (a := x) (x := -y) (A := 4) (B := B) h1 ⟨by omega, by omega⟩
    rw [Int.mul_neg] at this; omega
theorem GoodP.term {p : Pr} (h : GoodP p) {next : List Int} {B : Int} (hB : rowIn B next) (h0 : 0 ≤ B) {y : Int} {n d : Nat} (hn : n ≤ 4) (h1 : -10 ≤ y - d) (h2 : y - d ≤ 10) :
    -(4 * B) ≤ p.w.getD d 0 * p.part next y n d ∧ p.w.getD d 0 * p.part next y n d ≤ 4 * (288000000 + B) := by
  have a := h.part hB hn h1 h2
  exact wt_in (h.at_ d) ⟨a.2.2.1, a.2.2.2⟩ h0 (by omega)
/-- Levels up to which one may order. -/
def Pr.may (p : Pr) (y : Int) : Prop := p.floor ≤ y ∧ y ≤ 10
theorem Pr.may.lv {p : Pr} {y : Int} (h : p.may y) {d : Nat} (hd : d < p.w.length) : -10 ≤ y - d ∧ y - d ≤ 10 := by
  unfold Pr.may Pr.floor at h; omega
theorem GoodP.wsum {p : Pr} (h : GoodP p) {next : List Int} {B : Int} (hB : rowIn B next) (h0 : 0 ≤ B) {y : Int} {n : Nat} (hn : n ≤ 4) (hy : p.may y) : ∀ (k : Nat), k ≤ p.w.length →
    -(4 * B) * k ≤ wsum p.w (p.part next y n) k ∧ wsum p.w (p.part next y n) k ≤ 4 * (288000000 + B) * k
  | 0, _ => by simp [Go.Proofs.Ytddnedngjijpoaa.wsum]
  | k + 1, hk => by
    have ih := GoodP.wsum h hB h0 hn hy k (by omega)
    have a := hy.lv (d := k) (by omega)
    have t := h.term hB h0 hn a.1 a.2
    rw [wsum_s, Int.natCast_add, Int.mul_add, Int.mul_add]
    omega
theorem GoodP.after {p : Pr} (h : GoodP p) {next : List Int} {B : Int} (hB : rowIn B next) (h0 : 0 ≤ B) {y : Int} {n : Nat} (hn : n ≤ 4) (hy : p.may y) :
    -(20 * B) ≤ p.after next y n ∧ p.after next y n ≤ 20 * (288000000 + B) := by
  have a := h.wsum hB h0 hn hy p.w.length (Nat.le_refl _)
  have l := h.len
  have : (p.w.length : Int) = 1 ∨ (p.w.length : Int) = 2 ∨ (p.w.length : Int) = 3 ∨ (p.w.length : Int) = 4 ∨ (p.w.length : Int) = 5 := by omega
  unfold Pr.after
  rcases this with e | e | e | e | e <;> rw [e] at a <;> omega
theorem GoodP.ord {p : Pr} (h : GoodP p) {x y : Int} (hx : -10 ≤ x) (hy : y ≤ 10) : 0 ≤ p.ord x y ∧ p.ord x y ≤ 279 := by
  unfold Pr.ord
  by_cases hp : x < y
  · rw [if_pos hp]
    have a := mul_in' (A := 9) (B := 20) h.unit (x := y - x) (by omega)
    have := h.setup
    omega
  · rw [if_neg hp]; omega
theorem GoodP.move {p : Pr} (h : GoodP p) {next : List Int} {B : Int} (hB : rowIn B next) (h0 : 0 ≤ B) {x y : Int} {n : Nat} (hn : n ≤ 4) (hx : -10 ≤ x) (hy : p.may y) :
    0 ≤ p.ord x y * p.pow (n + 1) ∧ p.ord x y * p.pow (n + 1) ≤ 892800000 ∧ -(20 * B) ≤ p.move next x y n ∧ p.move next x y n ≤ 892800000 + 20 * (288000000 + B) := by
  have hq := h.pow5 (n := n + 1) (by omega)
  have a := mul_in' (A := 279) (B := 3200000) (h.ord hx hy.2) (x := p.pow (n + 1)) (by omega)
  have b := h.after hB h0 hn hy
  unfold Pr.move
  refine ⟨a.1, by omega, ?_, ?_⟩ <;> omega

/-! The least one of the best. -/
/-- b is the least one of those in lo..hi with the least c. -/
def IsLeast (c : Int → Int) (lo hi b : Int) : Prop := lo ≤ b ∧ b ≤ hi ∧ (∀ y, lo ≤ y → y ≤ hi → c b ≤ c y) ∧ ∀ y, lo ≤ y → y < b → c b < c y
theorem IsLeast.uniq {c : Int → Int} {lo hi a b : Int} (h : IsLeast c lo hi a) (h' : IsLeast c lo hi b) : a = b := by
  obtain ⟨a1, a2, a3, a4⟩ := h
  obtain ⟨b1, b2, b3, b4⟩ := h'
  rcases Int.lt_trichotomy a b with e | e | e
  · have := b4 a a1 e; have := a3 b b1 b2; omega
  · exact e
  · have := a4 b b1 e; have := b3 a a1 a2; omega
theorem IsLeast.one (c : Int → Int) (a : Int) : IsLeast c a a a := ⟨Int.le_refl _, Int.le_refl _, fun y h1 h2 => by rw [show y = a by omega]; exact Int.le_refl _, fun y h1 h2 => by omega⟩
/-- One more above. -/
theorem IsLeast.up {c : Int → Int} {lo hi b : Int} (h : IsLeast c lo hi b) : IsLeast c lo (hi + 1) (if c (hi + 1) < c b then hi + 1 else b) := by
  obtain ⟨a1, a2, a3, a4⟩ := h
  by_cases hc : c (hi + 1) < c b
  · rw [if_pos hc]
    refine ⟨by omega, Int.le_refl _, fun y h1 h2 => ?_, fun y h1 h2 => ?_⟩
    · rcases Int.lt_or_le hi y with e | e
      · rw [show y = hi + 1 by omega]; exact Int.le_refl _
      · have := a3 y h1 e; omega
    · have := a3 y h1 (by omega); omega
  · rw [if_neg hc]
    refine ⟨a1, by omega, fun y h1 h2 => ?_, a4⟩
    rcases Int.lt_or_le hi y with e | e
    · rw [show y = hi + 1 by omega]; omega
    · exact a3 y h1 e
/-- One more below. -/
theorem IsLeast.down {c : Int → Int} {lo hi b : Int} (h : IsLeast c lo hi b) : IsLeast c (lo - 1) hi (if c (lo - 1) ≤ c b then lo - 1 else b) := by
  obtain ⟨a1, a2, a3, a4⟩ := h
  by_cases hc : c (lo - 1) ≤ c b
  · rw [if_pos hc]
    refine ⟨Int.le_refl _, by omega, fun y h1 h2 => ?_, fun y h1 h2 => by omega⟩
    rcases Int.lt_or_le y lo with e | e
    · rw [show y = lo - 1 by omega]; exact Int.le_refl _
    · have := a3 y e h2; omega
  · rw [if_neg hc]
    refine ⟨by omega, a2, fun y h1 h2 => ?_, fun y h1 h2 => ?_⟩
    · rcases Int.lt_or_le y lo with e | e
      · rw [show y = lo - 1 by omega]; omega
      · exact a3 y e h2
    · rcases Int.lt_or_le y lo with e | e
      · rw [show y = lo - 1 by omega]; omega
      · exact a4 y e h2
def amin (c : Int → Int) (lo : Int) : Nat → Int
  | 0 => lo
  | n + 1 => if c (lo + n + 1) < c (amin c lo n) then lo + n + 1 else amin c lo n
theorem amin_least (c : Int → Int) (lo : Int) : ∀ n : Nat, IsLeast c lo (lo + n) (amin c lo n)
  | 0 => by simpa [amin] using IsLeast.one c lo
  | n + 1 => by
    have := (amin_least c lo n).up
    rw [amin, Int.natCast_add, ← Int.add_assoc]
    simpa using this
/-- The level up to which it is best to order. -/
def Pr.up (p : Pr) (next : List Int) (x : Int) (n : Nat) : Int := amin (fun y => p.move next x y n) (p.lo x) (10 - p.lo x).toNat
theorem Pr.lo_in {p : Pr} (h : GoodP p) {x : Int} (hx : -10 ≤ x ∧ x ≤ 10) : x ≤ p.lo x ∧ p.floor ≤ p.lo x ∧ p.lo x ≤ 10 := by
  have := h.floor
  unfold Pr.lo; omega
theorem Pr.up_least {p : Pr} (h : GoodP p) (next : List Int) {x : Int} (hx : -10 ≤ x ∧ x ≤ 10) (n : Nat) : IsLeast (fun y => p.move next x y n) (p.lo x) 10 (p.up next x n) := by
  have a := Pr.lo_in h hx
  have := amin_least (fun y => p.move next x y n) (p.lo x) (10 - p.lo x).toNat
  rwa [show p.lo x + ((10 - p.lo x).toNat : Int) = 10 by omega] at this
theorem Pr.up_may {p : Pr} (h : GoodP p) (next : List Int) {x : Int} (hx : -10 ≤ x ∧ x ≤ 10) (n : Nat) : p.may (p.up next x n) ∧ x ≤ p.up next x n := by
  have a := Pr.lo_in h hx
  have b := Pr.up_least h next hx n
  exact ⟨⟨by have := b.1; omega, b.2.1⟩, by have := b.1; omega⟩
/-- Rows from the last turn back, by what is chosen. -/
def Pr.rowsN (p : Pr) (ch : Nat → List Int → Int → Int) : Nat → List Int
  | 0 => List.replicate 21 0
  | k + 1 => (List.range 21).map fun (i : Nat) => p.move (p.rowsN ch k) ((i : Int) - 10) (ch k (p.rowsN ch k) ((i : Int) - 10)) k
theorem Pr.rowsN_len (p : Pr) (ch : Nat → List Int → Int → Int) (k : Nat) : (p.rowsN ch k).length = 21 := by
  cases k <;> simp [Pr.rowsN]
theorem Pr.rowsN_at (p : Pr) (ch : Nat → List Int → Int → Int) (k : Nat) {i : Nat} (hi : i < 21) : (p.rowsN ch (k + 1)).getD i 0 = p.move (p.rowsN ch k) ((i : Int) - 10) (ch k (p.rowsN ch k) ((i : Int) - 10)) k := by
  simp [Pr.rowsN, List.getD_eq_getElem?_getD, hi]
/-- A choice that may be made. -/
def Pr.fair (p : Pr) (ch : Nat → List Int → Int → Int) (N : Nat) : Prop := ∀ k next x, k < N → -10 ≤ x → x ≤ 10 → p.may (ch k next x)
theorem Pr.rows_in {p : Pr} (h : GoodP p) {ch : Nat → List Int → Int → Int} {N : Nat} (hN : N ≤ 5) (hf : p.fair ch N) : ∀ k, k ≤ N → rowIn (20 ^ k * 8000000000 - 8000000000) (p.rowsN ch k)
  | 0, _ => fun i hi => by
    have e : (p.rowsN ch 0).getD i 0 = 0 := by
      rw [Pr.rowsN, List.getD_eq_getElem?_getD, List.getElem?_replicate, if_pos hi]; rfl
    rw [e]; exact ⟨by decide, by decide⟩
  | k + 1, hk => fun i hi => by
    have ih := Pr.rows_in h hN hf k (by omega)
    rw [Pr.rowsN_at p ch k hi]
    have hp : (1 : Int) ≤ 20 ^ k := Int.pow_pos (n := 20) (by decide)
    have hx : (-10 : Int) ≤ (i : Int) - 10 := by omega
    have m := h.move ih (by omega) (n := k) (by omega) hx (hf k (p.rowsN ch k) _ (by omega) hx (by omega))
    rw [Int.pow_succ]
    omega
theorem Pr.rows_big {p : Pr} (h : GoodP p) {ch : Nat → List Int → Int → Int} {N : Nat} (hN : N ≤ 5) (hf : p.fair ch N) {k : Nat} (hk : k ≤ N) : rowIn 30000000000000000 (p.rowsN ch k) := fun i hi => by
  have a := Pr.rows_in h hN hf k hk i hi
  have : k = 0 ∨ k = 1 ∨ k = 2 ∨ k = 3 ∨ k = 4 ∨ k = 5 := by omega
  rcases this with rfl | rfl | rfl | rfl | rfl | rfl <;> simp at a ⊢ <;> omega
/-- The choices of the best moves, and of a policy. -/
def Pr.bestC (p : Pr) : Nat → List Int → Int → Int := fun k next x => p.up next x k
def Pr.upOf (p : Pr) (q : Int × Int) (x : Int) : Int := if x < q.1 ∨ x < p.floor then q.2 else x
def Pr.polC (p : Pr) (L : List (Int × Int)) : Nat → List Int → Int → Int := fun k _ x => p.upOf (L.getD (p.turns.toNat - 1 - k) (0, 0)) x
theorem Pr.best_fair {p : Pr} (h : GoodP p) (N : Nat) : p.fair p.bestC N := fun k next x _ h1 h2 => (Pr.up_may h next ⟨h1, h2⟩ k).1
def levB (x : Int) : Bool := decide (-10 ≤ x) && decide (x ≤ 10)
def Pr.pairB (p : Pr) (q : Int × Int) : Bool := levB q.1 && levB q.2 && decide (q.1 ≤ q.2) && decide (p.floor ≤ q.2)
def Pr.polB (p : Pr) (L : List (Int × Int)) : Bool := decide ((L.length : Int) = p.turns) && L.all p.pairB
theorem Pr.pol_at {p : Pr} {L : List (Int × Int)} (h : p.polB L = true) {k : Nat} (hk : k < L.length) : p.pairB (L.getD k (0, 0)) = true := by
  simp only [Pr.polB, Bool.and_eq_true, List.all_eq_true] at h
  rw [List.getD_eq_getElem?_getD, List.getElem?_eq_getElem hk]
  exact h.2 _ (List.getElem_mem hk)
theorem Pr.upOf_may {p : Pr} {q : Int × Int} (h : p.pairB q = true) {x : Int} (hx : -10 ≤ x ∧ x ≤ 10) : p.may (p.upOf q x) ∧ x ≤ p.upOf q x := by
  simp only [Pr.pairB, levB, Bool.and_eq_true, decide_eq_true_eq] at h
  unfold Pr.upOf Pr.may
  split <;> omega
theorem Pr.pol_fair {p : Pr} (h : GoodP p) {L : List (Int × Int)} (hL : p.polB L = true) : p.fair (p.polC L) p.turns.toNat := fun k next x hk h1 h2 => by
  have hl : (L.length : Int) = p.turns := by
    simp only [Pr.polB, Bool.and_eq_true, decide_eq_true_eq] at hL; exact hL.1
  exact (Pr.upOf_may (Pr.pol_at hL (k := p.turns.toNat - 1 - k) (by omega)) ⟨h1, h2⟩).1
/-- The table of N + 1 rows, the last turn last. -/
def Pr.tab (p : Pr) (ch : Nat → List Int → Int → Int) (N : Nat) : List (List Int) := (List.range (N + 1)).map fun t => p.rowsN ch (N - t)
theorem Pr.tab_len (p : Pr) (ch : Nat → List Int → Int → Int) (N : Nat) : (p.tab ch N).length = N + 1 := by simp [Pr.tab]
theorem Pr.tab_at (p : Pr) (ch : Nat → List Int → Int → Int) {N t : Nat} (h : t ≤ N) : (p.tab ch N).getD t [] = p.rowsN ch (N - t) := by
  simp [Pr.tab, List.getD_eq_getElem?_getD, show t < N + 1 by omega]
theorem Pr.tab_succ (p : Pr) (ch : Nat → List Int → Int → Int) (N : Nat) : p.tab ch (N + 1) = p.rowsN ch (N + 1) :: p.tab ch N := by
  unfold Pr.tab
  rw [List.range_succ_eq_map, List.map_cons, List.map_map]
  congr 1
  apply List.map_congr_left
  intro t ht
  simp
end Go.Proofs.Ytddnedngjijpoaa
