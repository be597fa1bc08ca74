/- Plain facts on reading decimals; nothing of the program. -/
import Derived.Test.YtofcnabpfdnohaaDoorPlain
import Derived.Lib.ItoaMem
import Derived.Lib.ItoaLen
import Derived.Lib.AtoiTie
import Derived.Lib.Strings
namespace Go.Proofs.YtofcnabpfdnohaaDoor
theorem decFrom_snoc (l : List UInt8) (b : UInt8) : ∀ acc, Lib.decFrom acc (l ++ [b]) = (Lib.decFrom acc l).bind fun n => (Lib.digitVal b).map fun d => n * 10 + d := by
  induction l with
  | nil =>
    intro acc
    simp only [List.nil_append, Lib.decFrom, Option.bind_some]
    cases Lib.digitVal b with
    | none => rfl
    | some d => rfl
  | cons c l ih =>
    intro acc
    simp only [List.cons_append, Lib.decFrom]
    cases Lib.digitVal c with
    | none => rfl
    | some d => exact ih _
theorem digitVal_of (d : Nat) (h : d < 10) : Lib.digitVal (UInt8.ofNat (48 + d)) = some d := by
  have e : (UInt8.ofNat (48 + d)).toNat = 48 + d := by simp only [UInt8.toNat_ofNat']; omega
  match d, h with
  | 0, _ | 1, _ | 2, _ | 3, _ | 4, _ | 5, _ | 6, _ | 7, _ | 8, _ | 9, _ => decide +kernel
  | d + 10, h => omega
theorem decFrom_digits (u : Nat) : Lib.decFrom 0 (Lib.decDigits u) = some u := by
  induction u using Nat.strongRecOn with
  | _ u ih =>
    rw [Lib.decDigits]
    by_cases h : u < 10
    · rw [dif_pos h]
      simp only [Lib.decFrom, digitVal_of u h, Nat.zero_mul, Nat.zero_add]
    · rw [dif_neg h, decFrom_snoc, ih (u / 10) (by omega), digitVal_of (u % 10) (by omega)]
      simp only [Option.bind_some, Option.map_some, Option.some.injEq]
      omega
theorem digits_ne (u : Nat) : Lib.decDigits u ≠ [] := by
  intro e
  have h := decFrom_digits u
  have h2 := Lib.decDigits_length u
  rw [e] at h2
  rw [Lib.decDigits] at e
  split at e <;> simp at e
theorem digits_len6 : ∀ u : Nat, u ≤ 999999 → (Lib.decDigits u).length ≤ 6 := by
  have step : ∀ u k : Nat, (∀ v : Nat, v < 10 ^ k → (Lib.decDigits v).length ≤ k) → 1 ≤ k → u < 10 ^ (k + 1) → (Lib.decDigits u).length ≤ k + 1 := by
    intro u k ih h1 hu
    rw [Lib.decDigits]
    by_cases h : u < 10
    · rw [dif_pos h]; simp
    · rw [dif_neg h, List.length_append]
      have := ih (u / 10) (by rw [Nat.pow_succ] at hu; omega)
      simp; omega
  have h1 : ∀ v : Nat, v < 10 ^ 1 → (Lib.decDigits v).length ≤ 1 := by
    intro v hv
    rw [Lib.decDigits, dif_pos (by omega)]; simp
  have h2 := fun v hv => step v 1 h1 (by omega) hv
  have h3 := fun v hv => step v 2 h2 (by omega) hv
  have h4 := fun v hv => step v 3 h3 (by omega) hv
  have h5 := fun v hv => step v 4 h4 (by omega) hv
  have h6 := fun v hv => step v 5 h5 (by omega) hv
  intro u hu
  exact h6 u (by omega)
theorem digit_first (u : Nat) : ∀ c r, Lib.decDigits u = c :: r → 48 ≤ c.toNat ∧ c.toNat ≤ 57 := by
  induction u using Nat.strongRecOn with
  | _ u ih =>
    intro c r hc
    have hd : ∀ d : Nat, d < 10 → 48 ≤ (UInt8.ofNat (48 + d)).toNat ∧ (UInt8.ofNat (48 + d)).toNat ≤ 57 := by
      intro d hd
      simp only [UInt8.toNat_ofNat']
      omega
    rw [Lib.decDigits] at hc
    by_cases h : u < 10
    · rw [dif_pos h] at hc
      simp only [List.cons.injEq] at hc
      rw [← hc.1]; exact hd u h
    · rw [dif_neg h] at hc
      cases hq : Lib.decDigits (u / 10) with
      | nil => exact absurd hq (digits_ne _)
      | cons c' r' =>
        rw [hq] at hc
        simp only [List.cons_append, List.cons.injEq] at hc
        rw [← hc.1]
        exact ih (u / 10) (by omega) c' r' hq
/-- Reading back what Itoa writes. -/
theorem atoi_itoa (n : Int) : Lib.atoi (Lib.itoa n) = some n := by
  unfold Lib.itoa
  by_cases h : n < 0
  · rw [if_pos h]
    simp only [Lib.atoi]
    rw [if_pos (by decide)]
    unfold Lib.decNat
    rw [if_neg (by simpa using digits_ne _), decFrom_digits]
    simp only [Option.map_some, Option.some.injEq]
    omega
  · rw [if_neg h]
    cases hd : Lib.decDigits n.toNat with
    | nil => exact absurd hd (digits_ne _)
    | cons c r =>
      obtain ⟨h1, h2⟩ := digit_first _ c r hd
      simp only [Lib.atoi]
      rw [if_neg (by intro e; have := congrArg UInt8.toNat (beq_iff_eq.1 e); have h45 : (45 : UInt8).toNat = 45 := rfl; omega),
        if_neg (by intro e; have := congrArg UInt8.toNat (beq_iff_eq.1 e); have h43 : (43 : UInt8).toNat = 43 := rfl; omega)]
      unfold Lib.decNat
      rw [← hd, if_neg (by simpa using digits_ne _), decFrom_digits]
      simp only [Option.map_some, Option.some.injEq]
      omega
theorem atoiAll_itoa (n : Int) (h0 : -999999 ≤ n) (h1 : n ≤ 999999) : Lib.atoiAll (Lib.itoa n) = .ok n := by
  have hl : (Lib.itoa n).length ≤ 18 := by
    unfold Lib.itoa
    by_cases h : n < 0
    · rw [if_pos h]
      have := digits_len6 n.natAbs (by omega)
      simp only [List.length_cons]; omega
    · rw [if_neg h]
      have := digits_len6 n.toNat (by omega)
      omega
  rw [Lib.atoiAll_short _ hl, atoi_itoa]
  rfl
theorem itoa_inj {a b : Int} (h : Lib.itoa a = Lib.itoa b) : a = b := by
  have := atoi_itoa a
  rw [h, atoi_itoa] at this
  exact (Option.some.inj this).symm
theorem decFrom_bad (l : List UInt8) : ∀ (acc k : Nat) (b : UInt8), l[k]? = some b → Lib.digitVal b = none → Lib.decFrom acc l = none := by
  induction l with
  | nil => intro acc k b h; cases h
  | cons c l ih =>
    intro acc k b h hb
    simp only [Lib.decFrom]
    cases k with
    | zero =>
      simp only [List.getElem?_cons_zero, Option.some.injEq] at h
      rw [h, hb]
    | succ k =>
      cases Lib.digitVal c with
      | none => rfl
      | some d => exact ih _ k b (by simpa using h) hb
end Go.Proofs.YtofcnabpfdnohaaDoor
