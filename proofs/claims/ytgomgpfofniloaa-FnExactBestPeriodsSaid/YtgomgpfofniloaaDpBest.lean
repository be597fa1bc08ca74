/- The best lots: by first periods, and of all lists. -/
import Derived.Test.YtgomgpfofniloaaDpMath
namespace Go.Proofs.Ytgomgpfofniloaa
set_option linter.unusedVariables false
set_option linter.unusedSimpArgs false

/-! The order of lists. -/
theorem lexB_irr (a : List Int) : lexB a a = false := by
  induction a with
  | nil => rfl
  | cons x a ih => rw [lexB, if_pos rfl, ih]
theorem lexB_trans : ∀ {a b c : List Int}, lexB a b = true → lexB b c = true → lexB a c = true := by
  intro a
  induction a with
  | nil => intro b c h; simp [lexB] at h
  | cons x a ih =>
    intro b c h1 h2
    cases b with
    | nil => simp [lexB] at h1
    | cons y b =>
      cases c with
      | nil => simp [lexB] at h2
      | cons z c =>
        rw [lexB] at h1 h2 ⊢
        by_cases e1 : x = y
        · rw [if_pos e1] at h1
          by_cases e2 : y = z
          · rw [if_pos e2] at h2
            rw [if_pos (e1.trans e2)]
            exact ih h1 h2
          · rw [if_neg e2] at h2
            rw [if_neg (fun e => e2 (e1.symm.trans e)), e1]
            exact h2
        · rw [if_neg e1] at h1
          have l1 := of_decide_eq_true h1
          by_cases e2 : y = z
          · rw [if_neg (fun e => e1 (e.trans e2.symm))]
            exact decide_eq_true (by omega)
          · rw [if_neg e2] at h2
            have l2 := of_decide_eq_true h2
            rw [if_neg (by omega)]
            exact decide_eq_true (by omega)
theorem lexB_tot : ∀ {a b : List Int}, a.length = b.length → a = b ∨ lexB a b = true ∨ lexB b a = true := by
  intro a
  induction a with
  | nil => intro b h; left; exact (List.eq_nil_of_length_eq_zero (by rw [← h]; rfl)).symm
  | cons x a ih =>
    intro b h
    cases b with
    | nil => simp at h
    | cons y b =>
      rw [lexB, lexB]
      by_cases e : x = y
      · subst e
        rw [if_pos rfl, if_pos rfl]
        rcases ih (b := b) (by simpa using h) with h | h | h
        · left; rw [h]
        · right; left; exact h
        · right; right; exact h
      · rw [if_neg e, if_neg (Ne.symm e)]
        rcases Int.lt_or_gt_of_ne e with h | h
        · right; left; exact decide_eq_true h
        · right; right; exact decide_eq_true h
theorem beforeB_irr (a : List Int) : beforeB a a = false := by unfold beforeB; rw [if_pos rfl, lexB_irr]
theorem beforeB_trans {a b c : List Int} (h1 : beforeB a b = true) (h2 : beforeB b c = true) : beforeB a c = true := by
  unfold beforeB at *
  by_cases e1 : a.length = b.length
  · rw [if_pos e1] at h1
    by_cases e2 : b.length = c.length
    · rw [if_pos e2] at h2
      rw [if_pos (e1.trans e2)]
      exact lexB_trans h1 h2
    · rw [if_neg e2] at h2
      rw [if_neg (by omega), e1]; exact h2
  · rw [if_neg e1] at h1
    have l1 := of_decide_eq_true h1
    by_cases e2 : b.length = c.length
    · rw [if_neg (by omega)]; exact decide_eq_true (by omega)
    · rw [if_neg e2] at h2
      have l2 := of_decide_eq_true h2
      rw [if_neg (by omega)]; exact decide_eq_true (by omega)
theorem beforeB_tot (a b : List Int) : a = b ∨ beforeB a b = true ∨ beforeB b a = true := by
  unfold beforeB
  by_cases e : a.length = b.length
  · rw [if_pos e, if_pos e.symm]; exact lexB_tot e
  · rw [if_neg e, if_neg (Ne.symm e)]
    rcases Nat.lt_or_gt_of_ne e with h | h
    · right; left; exact decide_eq_true h
    · right; right; exact decide_eq_true h
/-- Lots before lots: costs, then lists. -/
def bef (a b : Int × List Int) : Bool := if a.1 = b.1 then beforeB a.2 b.2 else decide (a.1 < b.1)
theorem bef_irr (a : Int × List Int) : bef a a = false := by unfold bef; rw [if_pos rfl, beforeB_irr]
theorem bef_trans {a b c : Int × List Int} (h1 : bef a b = true) (h2 : bef b c = true) : bef a c = true := by
  unfold bef at *
  by_cases e1 : a.1 = b.1
  · rw [if_pos e1] at h1
    by_cases e2 : b.1 = c.1
    · rw [if_pos e2] at h2
      rw [if_pos (e1.trans e2)]
      exact beforeB_trans h1 h2
    · rw [if_neg e2] at h2
      rw [if_neg (fun e => e2 (e1.symm.trans e)), e1]; exact h2
  · rw [if_neg e1] at h1
    have l1 := of_decide_eq_true h1
    by_cases e2 : b.1 = c.1
    · rw [if_neg (by omega)]; exact decide_eq_true (by omega)
    · rw [if_neg e2] at h2
      have l2 := of_decide_eq_true h2
      rw [if_neg (by omega)]; exact decide_eq_true (by omega)
theorem bef_tot (f : List Int → Int) (a b : List Int) : a = b ∨ bef (f a, a) (f b, b) = true ∨ bef (f b, b) (f a, a) = true := by
  unfold bef
  by_cases e : f a = f b
  · simp only [if_pos e, if_pos e.symm]; exact beforeB_tot a b
  · simp only [if_neg e, if_neg (Ne.symm e)]
    rcases Int.lt_or_gt_of_ne e with h | h
    · right; left; exact decide_eq_true h
    · right; right; exact decide_eq_true h
theorem bef_asymm {a b : Int × List Int} (h : bef a b = true) : bef b a = false := by
  cases hb : bef b a with
  | false => rfl
  | true => have := bef_trans h hb; rw [bef_irr] at this; cases this

/-- The first one of some lists. -/
def IsMin (S : List Int → Prop) (f : List Int → Int) (b : List Int) : Prop := S b ∧ ∀ y, S y → y = b ∨ bef (f b, b) (f y, y) = true
theorem IsMin.uniq {S : List Int → Prop} {f : List Int → Int} {a b : List Int} (ha : IsMin S f a) (hb : IsMin S f b) : a = b := by
  rcases ha.2 b hb.1 with h | h
  · exact h.symm
  · rcases hb.2 a ha.1 with h' | h'
    · exact h'
    · rw [bef_asymm h] at h'; cases h'
theorem IsMin.congr {S T : List Int → Prop} {f : List Int → Int} {a : List Int} (ha : IsMin S f a) (h : ∀ y, T y ↔ S y) : IsMin T f a :=
  ⟨(h a).2 ha.1, fun y hy => ha.2 y ((h y).1 hy)⟩
theorem IsMin.union {S T : List Int → Prop} {f : List Int → Int} {a b : List Int} (ha : IsMin S f a) (hb : IsMin T f b) :
    IsMin (fun y => S y ∨ T y) f (if bef (f b, b) (f a, a) = true then b else a) := by
  by_cases h : bef (f b, b) (f a, a) = true
  · rw [if_pos h]
    refine ⟨.inr hb.1, fun y hy => ?_⟩
    rcases hy with hy | hy
    · rcases ha.2 y hy with e | e
      · rw [e]; exact .inr h
      · exact .inr (bef_trans h e)
    · exact hb.2 y hy
  · rw [if_neg h]
    refine ⟨.inl ha.1, fun y hy => ?_⟩
    rcases hy with hy | hy
    · exact ha.2 y hy
    · have hab : a = b ∨ bef (f a, a) (f b, b) = true := by
        rcases bef_tot f a b with e | e | e
        · exact .inl e
        · exact .inr e
        · exact absurd e h
      rcases hb.2 y hy with e | e
      · rcases hab with g | g
        · left; rw [e, g]
        · right; rw [e]; exact g
      · rcases hab with g | g
        · right; rw [g]; exact e
        · exact .inr (bef_trans g e)

/-! By first periods. -/
def dpLoop (k : Cs) (n first : Nat) (g : Nat → List Int) : Nat → List Int
  | 0 => [(first : Int)]
  | m + 1 => if bef (costL k n ((first : Int) :: g (first + 1 + m)), (first : Int) :: g (first + 1 + m)) (costL k n (dpLoop k n first g m), dpLoop k n first g m) = true
      then (first : Int) :: g (first + 1 + m) else dpLoop k n first g m
def dpF (k : Cs) (n : Nat) : Nat → Nat → List Int
  | 0, _ => []
  | f + 1, first => if first < n then dpLoop k n first (dpF k n f) (n - 1 - first) else []
def dp (k : Cs) (n first : Nat) : List Int := dpF k n (n - first) first
theorem dpLoop_congr (k : Cs) (n first : Nat) {g g' : Nat → List Int} (m : Nat) (h : ∀ j, first < j → j ≤ first + m → g j = g' j) : dpLoop k n first g m = dpLoop k n first g' m := by
  induction m with
  | zero => rfl
  | succ m ih =>
    rw [dpLoop, dpLoop, ih fun j h1 h2 => h j h1 (by omega), h (first + 1 + m) (by omega) (by omega)]
theorem dpF_fuel (k : Cs) (n : Nat) : ∀ (f f' first : Nat), n - first ≤ f → n - first ≤ f' → dpF k n f first = dpF k n f' first := by
  intro f
  induction f with
  | zero =>
    intro f' first h1 h2
    cases f' with
    | zero => rfl
    | succ f' => rw [dpF, dpF, if_neg (by omega)]
  | succ f ih =>
    intro f' first h1 h2
    cases f' with
    | zero => rw [dpF, dpF, if_neg (by omega)]
    | succ f' =>
      rw [dpF, dpF]
      by_cases h : first < n
      · rw [if_pos h, if_pos h]
        exact dpLoop_congr k n first _ fun j h3 h4 => ih f' j (by omega) (by omega)
      · rw [if_neg h, if_neg h]
theorem dp_end (k : Cs) {n first : Nat} (h : n ≤ first) : dp k n first = [] := by
  unfold dp
  rw [show n - first = 0 by omega]; rfl
theorem dp_loop (k : Cs) {n first : Nat} (h : first < n) : dp k n first = dpLoop k n first (dp k n) (n - 1 - first) := by
  obtain ⟨f, hf⟩ : ∃ f, n - first = f + 1 := ⟨n - first - 1, by omega⟩
  unfold dp
  rw [hf, dpF, if_pos h]
  exact dpLoop_congr k n first _ fun j h1 h2 => dpF_fuel k n f (n - j) j (by omega) (by omega)
/-- Lists of order periods with a first one. -/
def Firsts (n first : Nat) (ps : List Int) : Prop := Rising ps n ∧ beg n ps 0 = first
theorem firsts_cons {n first : Nat} {ps : List Int} (h : Firsts n first ps) (hf : first < n) : ∃ r, ps = (first : Int) :: r ∧ Firsts n (beg n r 0) r ∧ first < beg n r 0 ∧ beg n r 0 ≤ n := by
  obtain ⟨h1, h2⟩ := h
  cases ps with
  | nil => rw [beg_nil] at h2; omega
  | cons p r =>
    obtain ⟨t1, t2, t3⟩ := h1.tail
    rw [beg_cons0] at h2
    refine ⟨r, by rw [← h2]; congr 1; omega, ⟨t1, rfl⟩, by omega, beg_le t1 0⟩
theorem bef_cons (k : Cs) {n first : Nat} {r r' : List Int} (he : beg n r 0 = beg n r' 0) (h : bef (costL k n r, r) (costL k n r', r') = true) :
    bef (costL k n ((first : Int) :: r), (first : Int) :: r) (costL k n ((first : Int) :: r'), (first : Int) :: r') = true := by
  rw [costL_cons, costL_cons, he]
  unfold bef at *
  by_cases e : costL k n r = costL k n r'
  · simp only [if_pos e] at h
    simp only [e, if_true]
    unfold beforeB at *
    simp only [List.length_cons, Nat.add_right_cancel_iff, Nat.add_lt_add_iff_right]
    by_cases e2 : r.length = r'.length
    · rw [if_pos e2] at h ⊢
      rw [lexB, if_pos rfl]; exact h
    · rw [if_neg e2] at h ⊢; exact h
  · simp only [if_neg e] at h
    have := of_decide_eq_true h
    simp only []
    rw [if_neg (by omega)]
    exact decide_eq_true (by omega)
theorem dp_min (k : Cs) (n : Nat) : ∀ (d first : Nat), first + d = n → IsMin (Firsts n first) (costL k n) (dp k n first) := by
  intro d
  induction d using Nat.strongRecOn with
  | _ d ih =>
    intro first hfd
    rcases Nat.eq_zero_or_pos d with h0 | h0
    · rw [dp_end k (by omega)]
      refine ⟨⟨Rising.nil n, by rw [beg_nil]; omega⟩, fun y hy => .inl ?_⟩
      obtain ⟨h1, h2⟩ := hy
      cases y with
      | nil => rfl
      | cons p r =>
        have := h1.tail
        have := beg_le this.1 0
        rw [beg_cons0] at h2
        omega
    · rw [dp_loop k (by omega)]
      have loop : ∀ m, m ≤ n - 1 - first → IsMin (fun ps => Firsts n first ps ∧ (beg n ps.tail 0 = n ∨ beg n ps.tail 0 < first + 1 + m)) (costL k n) (dpLoop k n first (dp k n) m) := by
        intro m
        induction m with
        | zero =>
          intro _
          rw [dpLoop]
          refine ⟨⟨⟨(Rising.nil n).cons (by omega) (by rw [beg_nil]; omega), by rw [beg_cons0]; omega⟩, .inl (beg_nil n 0)⟩, fun y hy => .inl ?_⟩
          obtain ⟨hy1, hy2⟩ := hy
          obtain ⟨r, rfl, hr1, hr2, hr3⟩ := firsts_cons hy1 (by omega)
          simp only [List.tail_cons] at hy2
          have e : beg n r 0 = n := by omega
          cases r with
          | nil => rfl
          | cons p r =>
            have := hr1.1.tail
            have := beg_le this.1 0
            rw [beg_cons0] at e
            omega
        | succ m ihm =>
          intro hm
          have a := ihm (by omega)
          have b := ih (n - (first + 1 + m)) (by omega) (first + 1 + m) (by omega)
          have hcons : ∀ r, Firsts n (first + 1 + m) r → Firsts n first ((first : Int) :: r) := fun r hr =>
            ⟨hr.1.cons (by omega) (by rw [hr.2]; omega), by rw [beg_cons0]; omega⟩
          have b2 : IsMin (fun ps => Firsts n first ps ∧ beg n ps.tail 0 = first + 1 + m) (costL k n) ((first : Int) :: dp k n (first + 1 + m)) := by
            refine ⟨⟨hcons _ b.1, b.1.2⟩, fun y hy => ?_⟩
            obtain ⟨hy1, hy2⟩ := hy
            obtain ⟨r, rfl, hr1, hr2, hr3⟩ := firsts_cons hy1 (by omega)
            simp only [List.tail_cons] at hy2
            rw [hy2] at hr1
            rcases b.2 r hr1 with e | e
            · left; rw [e]
            · right; exact bef_cons k (by rw [b.1.2, hy2]) e
          refine (a.union b2).congr fun y => ?_
          constructor
          · rintro ⟨h1, h2⟩
            by_cases e : beg n y.tail 0 = first + 1 + m
            · exact .inr ⟨h1, e⟩
            · exact .inl ⟨h1, by omega⟩
          · rintro (⟨h1, h2⟩ | ⟨h1, h2⟩)
            · exact ⟨h1, by omega⟩
            · exact ⟨h1, .inr (by omega)⟩
      refine (loop _ (Nat.le_refl _)).congr fun y => ⟨fun hy => ⟨hy, ?_⟩, fun hy => hy.1⟩
      obtain ⟨r, rfl, hr1, hr2, hr3⟩ := firsts_cons hy (by omega)
      simp only [List.tail_cons]
      omega

/-! The best lots of all that cover the needs. -/
def blF (k : Cs) (n : Nat) : Nat → List Int
  | 0 => dp k n 0
  | t + 1 => if bef (costL k n (dp k n (t + 1)), dp k n (t + 1)) (costL k n (blF k n t), blF k n t) = true then dp k n (t + 1) else blF k n t
theorem blF_min (k : Cs) (n t : Nat) (ht : t ≤ n) : IsMin (fun ps => Rising ps n ∧ beg n ps 0 ≤ t) (costL k n) (blF k n t) := by
  induction t with
  | zero => exact (dp_min k n n 0 (by omega)).congr fun y => ⟨fun h => ⟨h.1, by omega⟩, fun h => ⟨h.1, by have := h.2; omega⟩⟩
  | succ t ih =>
    refine ((ih (by omega)).union (dp_min k n (n - (t + 1)) (t + 1) (by omega))).congr fun y => ?_
    constructor
    · rintro ⟨h1, h2⟩
      by_cases e : beg n y 0 = t + 1
      · exact .inr ⟨h1, e⟩
      · exact .inl ⟨h1, by omega⟩
    · rintro (⟨h1, h2⟩ | ⟨h1, h2⟩)
      · exact ⟨h1, by omega⟩
      · exact ⟨h1, by omega⟩
theorem cov_iff {k : Cs} (hg : Good k) {ps : List Int} (hr : Rising ps k.need.length) {T : Nat} (hz : ∀ j, j < T → k.need.getD j 0 = 0) (hT : T = k.need.length ∨ (T < k.need.length ∧ k.need.getD T 0 ≠ 0)) :
    covers k.need ps = true ↔ beg k.need.length ps 0 ≤ T := by
  constructor
  · intro hc
    have hb := beg_le hr 0
    by_cases h : beg k.need.length ps 0 ≤ T
    · exact h
    · exfalso
      have := cov_zero hg hr hc T (by omega)
      omega
  · intro h
    refine decide_eq_true fun t ht hl => ?_
    have : t < beg k.need.length ps 0 := by
      cases ps with
      | nil => rw [beg_nil]; exact ht
      | cons p r =>
        rw [beg_cons0]
        have : (t : Int) < p := hl
        omega
    rw [hz t (by omega)]; omega
theorem bits_all : ∀ (n : Nat) (ps : List Int), Rising ps n → ∃ c, c < 2 ^ n ∧ ps = bitsL c n := by
  intro n
  induction n with
  | zero =>
    intro ps h
    cases ps with
    | nil => exact ⟨0, by simp, rfl⟩
    | cons p r => have := h.bd 0 (by simp); simp at this; omega
  | succ n ih =>
    intro ps h
    have low : ∀ (c x : Nat), x ≤ n → bitsL (c + 2 ^ n) x = bitsL c x := by
      intro c x hx
      induction x with
      | zero => rfl
      | succ x ihx =>
        have e : (c + 2 ^ n) / 2 ^ x % 2 = c / 2 ^ x % 2 := by
          have h1 : 2 ^ n = 2 ^ x * (2 * 2 ^ (n - x - 1)) := by
            rw [← Nat.pow_succ', ← Nat.pow_add]; congr 1; omega
          rw [h1, Nat.add_mul_div_left _ _ (Nat.two_pow_pos x), Nat.add_mul_mod_self_left]
        rw [bitsL, bitsL, e, ihx (by omega)]
    by_cases hl : 0 < ps.length ∧ ps.getD (ps.length - 1) 0 = n
    · have hd : ps = ps.dropLast ++ [(n : Int)] := by
        have hne : ps ≠ [] := by intro e; rw [e] at hl; simp at hl
        have := List.dropLast_concat_getLast hne
        rw [← this]
        congr 1
        · simp
        · congr 1
          have h2 := hl.2
          rw [List.getD_eq_getElem?_getD, List.getElem?_eq_getElem (by omega)] at h2
          rw [List.getLast_eq_getElem]
          simpa using h2
      have hlen : ps.dropLast.length = ps.length - 1 := List.length_dropLast
      have hget : ∀ i, i < ps.length - 1 → ps.dropLast.getD i 0 = ps.getD i 0 := fun i hi => by
        rw [List.getD_eq_getElem?_getD, List.getD_eq_getElem?_getD, List.getElem?_dropLast, if_pos hi]
      have hr : Rising ps.dropLast n := by
        refine ⟨fun i hi => ?_, fun i hi => ?_⟩
        · rw [hget i (by omega)]
          have h1 := h.bd i (by omega)
          have h2 := h.lt (i := i) (j := ps.length - 1) (by omega) (by omega)
          rw [hl.2] at h2
          omega
        · rw [hget i (by omega), hget (i + 1) (by omega)]
          exact h.up i (by omega)
      obtain ⟨c, hc, he⟩ := ih _ hr
      refine ⟨c + 2 ^ n, by rw [Nat.pow_succ]; omega, ?_⟩
      have hbit : (c + 2 ^ n) / 2 ^ n % 2 = 1 := by
        rw [Nat.add_div_right _ (Nat.two_pow_pos n), Nat.div_eq_of_lt hc]
      rw [bitsL, if_pos hbit, low c n (Nat.le_refl _), ← he]
      exact hd
    · have hr : Rising ps n := by
        refine ⟨fun i hi => ?_, h.up⟩
        have h1 := h.bd i hi
        refine ⟨h1.1, ?_⟩
        by_cases e : i = ps.length - 1
        · have : ps.getD i 0 ≠ n := fun e2 => hl ⟨by omega, by rw [← e]; exact e2⟩
          omega
        · have := h.lt (i := i) (j := ps.length - 1) (by omega) (by omega)
          have := (h.bd (ps.length - 1) (by omega)).2
          omega
      obtain ⟨c, hc, he⟩ := ih _ hr
      refine ⟨c, by rw [Nat.pow_succ]; omega, ?_⟩
      rw [bitsL, Nat.div_eq_of_lt hc, if_neg (by simp)]
      exact he
theorem bestC_min {k : Cs} (hg : Good k) (c : Nat) : ((bestC k c).2 < 0 ∧ ∀ c', c' < c → covers k.need (bitsL c' k.need.length) = false) ∨
    (IsMin (fun ps => ∃ c', c' < c ∧ ps = bitsL c' k.need.length ∧ covers k.need ps = true) (costL k k.need.length) (bestC k c).1 ∧ (bestC k c).2 = costL k k.need.length (bestC k c).1) := by
  induction c with
  | zero => exact .inl ⟨by simp [bestC], fun c' h => by omega⟩
  | succ c ih =>
    obtain ⟨ps, hps⟩ : ∃ ps, ps = bitsL c k.need.length := ⟨_, rfl⟩
    have hr : Rising ps k.need.length := by rw [hps]; exact bitsL_rising _ _
    rw [bestC, ← hps, stepB]
    cases hcv : covers k.need ps with
    | false =>
      rw [if_neg (by simp)]
      rcases ih with ⟨h1, h2⟩ | ⟨h1, h2⟩
      · refine .inl ⟨h1, fun c' h => ?_⟩
        by_cases e : c' = c
        · rw [e, ← hps]; exact hcv
        · exact h2 c' (by omega)
      · refine .inr ⟨h1.congr fun y => ⟨?_, ?_⟩, h2⟩
        · rintro ⟨c', g1, g2, g3⟩
          by_cases e : c' = c
          · rw [g2, e, ← hps, hcv] at g3; cases g3
          · exact ⟨c', by omega, g2, g3⟩
        · rintro ⟨c', g1, g2, g3⟩
          exact ⟨c', by omega, g2, g3⟩
    | true =>
      rw [if_pos rfl, fromL_cost hg hr hcv]
      have hnn := (costL_in hg hr).1
      have one : IsMin (fun y => y = ps) (costL k k.need.length) ps := ⟨rfl, fun y hy => .inl hy⟩
      rcases ih with ⟨h1, h2⟩ | ⟨h1, h2⟩
      · rw [if_pos (.inl h1)]
        refine .inr ⟨one.congr fun y => ⟨?_, ?_⟩, rfl⟩
        · rintro ⟨c', g1, g2, g3⟩
          by_cases e : c' = c
          · rw [g2, e, ← hps]
          · rw [g2, h2 c' (by omega)] at g3; cases g3
        · rintro rfl
          exact ⟨c, by omega, hps, hcv⟩
      · have hb0 : ¬ ((bestC k c).2 < 0) := by
          obtain ⟨⟨c', g1, g2, g3⟩, _⟩ := h1
          rw [h2]
          have := (costL_in hg (bestC_rising k c)).1
          omega
        have hu := h1.union one
        have hset : ∀ y, (∃ c', c' < c + 1 ∧ y = bitsL c' k.need.length ∧ covers k.need y = true) ↔ ((∃ c', c' < c ∧ y = bitsL c' k.need.length ∧ covers k.need y = true) ∨ y = ps) := by
          intro y
          constructor
          · rintro ⟨c', g1, g2, g3⟩
            by_cases e : c' = c
            · right; rw [g2, e, ← hps]
            · exact .inl ⟨c', by omega, g2, g3⟩
          · rintro (⟨c', g1, g2, g3⟩ | rfl)
            · exact ⟨c', by omega, g2, g3⟩
            · exact ⟨c, by omega, hps, hcv⟩
        have hcond : ((bestC k c).2 < 0 ∨ costL k k.need.length ps < (bestC k c).2 ∨ (costL k k.need.length ps = (bestC k c).2 ∧ beforeB ps (bestC k c).1 = true)) ↔
            bef (costL k k.need.length ps, ps) (costL k k.need.length (bestC k c).1, (bestC k c).1) = true := by
          rw [← h2]
          unfold bef
          by_cases e : costL k k.need.length ps = (bestC k c).2
          · rw [if_pos e]
            constructor
            · rintro (g | g | g)
              · exact absurd g hb0
              · omega
              · exact g.2
            · intro g; exact .inr (.inr ⟨e, g⟩)
          · rw [if_neg e]
            constructor
            · rintro (g | g | g)
              · exact absurd g hb0
              · exact decide_eq_true g
              · exact absurd g.1 e
            · intro g; exact .inr (.inl (of_decide_eq_true g))
        right
        by_cases hbf : bef (costL k k.need.length ps, ps) (costL k k.need.length (bestC k c).1, (bestC k c).1) = true
        · rw [if_pos hbf] at hu
          rw [if_pos (hcond.2 hbf)]
          exact ⟨hu.congr hset, rfl⟩
        · rw [if_neg hbf] at hu
          rw [if_neg (fun g => hbf (hcond.1 g))]
          exact ⟨hu.congr hset, h2⟩
/-- The first period with a need, or the number of periods. -/
theorem bestL_dp {k : Cs} (hg : Good k) {T : Nat} (hTn : T ≤ k.need.length) (hz : ∀ j, j < T → k.need.getD j 0 = 0) (hT : T = k.need.length ∨ (T < k.need.length ∧ k.need.getD T 0 ≠ 0)) :
    bestL k = blF k k.need.length T ∧ bestCost k = costL k k.need.length (blF k k.need.length T) := by
  have hbl := (blF_min k k.need.length T hTn).congr (T := fun ps => ∃ c', c' < 2 ^ k.need.length ∧ ps = bitsL c' k.need.length ∧ covers k.need ps = true) fun y => by
    constructor
    · rintro ⟨c', g1, g2, g3⟩
      have hr : Rising y k.need.length := by rw [g2]; exact bitsL_rising _ _
      exact ⟨hr, (cov_iff hg hr hz hT).1 g3⟩
    · rintro ⟨g1, g2⟩
      obtain ⟨c', h1, h2⟩ := bits_all _ y g1
      exact ⟨c', h1, h2, (cov_iff hg g1 hz hT).2 g2⟩
  have e : bestL k = blF k k.need.length T := by
    rcases bestC_min hg (2 ^ k.need.length) with ⟨_, h2⟩ | ⟨h1, _⟩
    · obtain ⟨⟨c', g1, g2, g3⟩, _⟩ := hbl
      rw [g2, h2 c' g1] at g3
      cases g3
    · exact h1.uniq hbl
  refine ⟨e, ?_⟩
  unfold bestCost
  have hcv : covers k.need (bestL k) = true := by
    rw [e]
    obtain ⟨⟨c', g1, g2, g3⟩, _⟩ := hbl
    exact g3
  rw [fromL_cost hg (show Rising (bestL k) k.need.length from bestC_rising k _) hcv, e]
end Go.Proofs.Ytgomgpfofniloaa
