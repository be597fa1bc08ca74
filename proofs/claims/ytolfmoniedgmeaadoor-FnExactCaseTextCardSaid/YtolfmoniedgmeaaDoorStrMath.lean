/- Plain facts on the texts of numbers and of rows of numbers; nothing of the program. -/
import Derived.Test.YtolfmoniedgmeaaDoorJoinMath
import Derived.Lib.ItoaNum
import Derived.Lib.ItoaLen
namespace Go.Proofs.YtolfmoniedgmeaaDoor
open Go
set_option linter.unusedVariables false

theorem dec_byte : ∀ (k u : Nat), u ≤ k → ∀ c ∈ Lib.decDigits u, 48 ≤ c.toNat ∧ c.toNat ≤ 57 := by
  intro k
  induction k with
  | zero =>
    intro u hu c hc
    obtain rfl : u = 0 := by omega
    rw [Lib.decDigits, dif_pos (by omega)] at hc
    simp only [List.mem_singleton] at hc
    subst hc
    decide
  | succ k ih =>
    intro u hu c hc
    rw [Lib.decDigits] at hc
    have dig : ∀ d : Nat, d < 10 → 48 ≤ (UInt8.ofNat (48 + d)).toNat ∧ (UInt8.ofNat (48 + d)).toNat ≤ 57 := by decide
    by_cases h : u < 10
    · rw [dif_pos h] at hc
      simp only [List.mem_singleton] at hc
      subst hc
      exact dig u h
    · rw [dif_neg h] at hc
      rcases List.mem_append.1 hc with hc | hc
      · exact ih (u / 10) (by omega) c hc
      · simp only [List.mem_singleton] at hc
        subst hc
        exact dig (u % 10) (by omega)
theorem itoa_byte (x : Int) : ∀ c ∈ Lib.itoa x, c = 45 ∨ (48 ≤ c.toNat ∧ c.toNat ≤ 57) := by
  intro c hc
  unfold Lib.itoa at hc
  split at hc
  · rcases List.mem_cons.1 hc with hc | hc
    · exact .inl hc
    · exact .inr (dec_byte _ _ (Nat.le_refl _) c hc)
  · exact .inr (dec_byte _ _ (Nat.le_refl _) c hc)
theorem itoa_has (x : Int) {b : UInt8} (h1 : b ≠ 45) (h2 : b.toNat < 48) : hasB (Lib.itoa x) b = false := by
  unfold hasB
  rw [List.any_eq_false]
  intro c hc
  rcases itoa_byte x c hc with rfl | h
  · simpa using Ne.symm h1
  · simp only [beq_iff_eq]
    rintro rfl
    omega
theorem dec_len (k : Nat) : ∀ u : Nat, u < 10 ^ k → 1 ≤ k → (Lib.decDigits u).length ≤ k := by
  induction k with
  | zero => intro u hu h; omega
  | succ k ih =>
    intro u hu h
    rw [Lib.decDigits]
    by_cases h10 : u < 10
    · rw [dif_pos h10]; simp
    · rw [dif_neg h10]
      by_cases hk : k = 0
      · subst hk; simp at hu; omega
      · have := ih (u / 10) (by rw [Nat.pow_succ] at hu; omega) (by omega)
        simp only [List.length_append, List.length_cons, List.length_nil]; omega
theorem itoa_len7 {x : Int} (h1 : -999999 ≤ x) (h2 : x ≤ 999999) : (Lib.itoa x).length ≤ 7 := by
  unfold Lib.itoa
  split
  · have := dec_len 6 x.natAbs (by have : (10 : Nat) ^ 6 = 1000000 := rfl; omega) (by omega)
    simp only [List.length_cons]; omega
  · have := dec_len 6 x.toNat (by have : (10 : Nat) ^ 6 = 1000000 := rfl; omega) (by omega)
    omega
theorem canJ_ok {b : UInt8} {n : Nat} : ∀ (L : List (List UInt8)) (room : Int), (∀ s ∈ L, s.length ≤ n ∧ hasB s b = false) → ((L.length * (n + 1) : Nat) : Int) ≤ room → canJ b room L = true
  | [], _, _, _ => rfl
  | s :: r, room, h, hr => by
    obtain ⟨h1, h2⟩ := h s (List.mem_cons_self ..)
    rw [List.length_cons, Nat.succ_mul] at hr
    rw [canJ_step b room s r (by omega) h2]
    exact canJ_ok r _ (fun t ht => h t (List.mem_cons_of_mem _ ht)) (by omega)
theorem tail_has {b c : UInt8} (hbc : b ≠ c) : ∀ (L : List (List UInt8)), (∀ s ∈ L, hasB s c = false) → hasB (Lib.joinTail [b] L) c = false
  | [], _ => rfl
  | s :: r, h => by
    have h1 := h s (List.mem_cons_self ..)
    have h2 := tail_has hbc r fun t ht => h t (List.mem_cons_of_mem _ ht)
    simp only [hasB, Lib.joinTail, List.map_cons, List.flatten_cons, List.any_append, List.any_cons, List.any_nil] at h1 h2 ⊢
    rw [h1, h2]
    simp [hbc]
theorem join_has {b c : UInt8} (hbc : b ≠ c) {L : List (List UInt8)} (h : ∀ s ∈ L, hasB s c = false) : hasB (Lib.join L [b]) c = false := by
  cases L with
  | nil => rfl
  | cons s r =>
    rw [Lib.join_cons]
    have h1 := h s (List.mem_cons_self ..)
    have h2 := tail_has hbc r fun t ht => h t (List.mem_cons_of_mem _ ht)
    simp only [hasB, List.any_append] at h1 h2 ⊢
    rw [h1, h2]; rfl
theorem join_len {b : UInt8} {n : Nat} : ∀ (L : List (List UInt8)), (∀ s ∈ L, s.length ≤ n) → (Lib.joinTail [b] L).length ≤ L.length * (n + 1)
  | [], _ => by simp [Lib.joinTail]
  | s :: r, h => by
    have h1 := h s (List.mem_cons_self ..)
    have h2 := join_len (b := b) r fun t ht => h t (List.mem_cons_of_mem _ ht)
    simp only [Lib.joinTail, List.map_cons, List.flatten_cons, List.length_append, List.length_cons, List.length_nil, Nat.succ_mul] at h2 ⊢
    omega
/-- The numbers of a row, with strokes between them. -/
def numT (l : List Int) : List UInt8 := Lib.join (l.map Lib.itoa) [47]
def SmallL (l : List Int) : Prop := 0 < l.length ∧ l.length ≤ 10 ∧ ∀ x ∈ l, -999999 ≤ x ∧ x ≤ 999999
theorem numT_can {l : List Int} (h : SmallL l) : canJ 47 4001 (l.map Lib.itoa) = true := by
  refine canJ_ok (n := 7) _ _ (fun s hs => ?_) (by rw [List.length_map]; have := h.2.1; omega)
  obtain ⟨x, hx, rfl⟩ := List.mem_map.1 hs
  exact ⟨itoa_len7 (h.2.2 x hx).1 (h.2.2 x hx).2, itoa_has x (by decide) (by decide)⟩
theorem numT_len {l : List Int} (h : SmallL l) : (numT l).length ≤ 80 := by
  unfold numT
  cases l with
  | nil => simp [Lib.join_nil]
  | cons x r =>
    rw [List.map_cons, Lib.join_cons, List.length_append]
    have h1 := h.2.2 x (List.mem_cons_self ..)
    have h2 := itoa_len7 h1.1 h1.2
    have h3 := join_len (b := 47) (n := 7) (r.map Lib.itoa) fun s hs => by
      obtain ⟨y, hy, rfl⟩ := List.mem_map.1 hs
      have := h.2.2 y (List.mem_cons_of_mem _ hy)
      exact itoa_len7 this.1 this.2
    have h4 := h.2.1
    rw [List.length_map] at h3
    simp only [List.length_cons] at h4
    omega
theorem numT_has (l : List Int) : hasB (numT l) 32 = false := join_has (by decide) fun s hs => by
  obtain ⟨x, hx, rfl⟩ := List.mem_map.1 hs
  exact itoa_has x (by decide) (by decide)
/-- The rows, with spaces between them. -/
def rowT (T : List (List Int)) : List UInt8 := Lib.join (T.map numT) [32]
theorem rowT_can {T : List (List Int)} (h : ∀ l ∈ T, SmallL l) (hT : T.length ≤ 40) : canJ 32 4001 (T.map numT) = true := by
  refine canJ_ok (n := 80) _ _ (fun s hs => ?_) (by rw [List.length_map]; omega)
  obtain ⟨x, hx, rfl⟩ := List.mem_map.1 hs
  exact ⟨numT_len (h x hx), numT_has x⟩
theorem join_snoc {b : UInt8} {L : List (List UInt8)} (s : List UInt8) (h : L ≠ []) : Lib.join (L ++ [s]) [b] = Lib.join L [b] ++ [b] ++ s := by
  cases L with
  | nil => exact absurd rfl h
  | cons x r =>
    rw [List.cons_append, Lib.join_cons, Lib.join_cons]
    simp [Lib.joinTail]
theorem rowT_len {T : List (List Int)} (h : ∀ l ∈ T, SmallL l) : (rowT T).length ≤ T.length * 81 := by
  unfold rowT
  cases T with
  | nil => simp [Lib.join_nil]
  | cons l r =>
    rw [List.map_cons, Lib.join_cons, List.length_append]
    have h1 := numT_len (h l (List.mem_cons_self ..))
    have h3 := join_len (b := 32) (n := 80) (r.map numT) fun s hs => by
      obtain ⟨y, hy, rfl⟩ := List.mem_map.1 hs
      exact numT_len (h y (List.mem_cons_of_mem _ hy))
    rw [List.length_map] at h3
    simp only [List.length_cons]
    omega
theorem numT_two (a b : Int) : numT [a, b] = Lib.itoa a ++ [47] ++ Lib.itoa b := by
  unfold numT
  simp [Lib.join_cons, Lib.joinTail]
theorem numT_four (a b c d : Int) : numT [a, b, c, d] = Lib.itoa a ++ [47] ++ Lib.itoa b ++ [47] ++ Lib.itoa c ++ [47] ++ Lib.itoa d := by
  unfold numT
  simp [Lib.join_cons, Lib.joinTail]
theorem rowT_step {T : List (List Int)} {k : Nat} {l : List Int} (h : T.take (k + 1) = T.take k ++ [l]) (hk : k ≤ T.length) : rowT (T.take (k + 1)) = if k = 0 then numT l else rowT (T.take k) ++ [32] ++ numT l := by
  by_cases hk0 : k = 0
  · subst hk0
    rw [if_pos rfl, h]
    simp only [List.take_zero, List.nil_append, rowT, List.map_cons, List.map_nil, Lib.join_one]
  · rw [if_neg hk0, h]
    unfold rowT
    rw [List.map_append, List.map_cons, List.map_nil, join_snoc]
    intro e
    have : (T.take k).length = 0 := by rw [← List.length_map (f := numT), e]; rfl
    rw [List.length_take] at this
    omega
end Go.Proofs.YtolfmoniedgmeaaDoor
