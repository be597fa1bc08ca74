/- Sets of periods as numbers: their lists. -/
import Derived.Test.YtihjcjhnkpkomaaAbBest
import Derived.Test.YtihjcjhnkpkomaaAbCmp
import Derived.Test.YtihjcjhnkpkomaaShelfLen
import Derived.Test.YtihjcjhnkpkomaaAbObj2
namespace Go.Proofs.Ytihjcjhnkpkomaa.Ab
open Go Go.RowKit
set_option linter.unusedVariables false
set_option linter.unusedSimpArgs false

theorem wrapU (x : Int) (h : 0 ≤ x ∧ x ≤ 18446744073709551615) : IntKind.u64.wrap x = x := IntWalk.u64_in x ⟨h.1, by omega⟩
theorem FnOk.fn9 {P : Program} {f : FuncId} {n : Nat} {c : ACode} {res : List ARes} (hf : FnOk P f n c res) : ∃ fn, P.funcs[f]? = some fn ∧ (fn.name == "runtime.NumGoroutine") = false ∧ fn.body.isNone = false := by
  obtain ⟨fn, C, hfn, hname, hb, _⟩ := hf.ok
  exact ⟨fn, hfn, hname, by rw [hb]; rfl⟩
theorem rc_plain9 {P : Program} {f : FuncId} {args : List Value} {m : Mem} {v : Value} (hf : ∃ fn, P.funcs[f]? = some fn ∧ (fn.name == "runtime.NumGoroutine") = false ∧ fn.body.isNone = false) (hv : ∀ ρ, VR ρ v v)
    (H : ∀ (ρ : Places) (w : World) (cargs : List Value), MRel w w.heap.size ρ (roM m) w → VL ρ args cargs → Calls P f cargs.toArray w (fun e w' => e = .returned v ∧ Below w.heap.size w w')) : RC P f args m fun r new => r = v ∧ new = [] :=
  ⟨hf, fun ρ w cargs hm ha => (H ρ w cargs hm ha).mono fun e w' ⟨he, hb⟩ => ⟨v, v, [], [], he, ⟨rfl, rfl⟩, noRo_nil, by simpa using hm.keep hb, by simpa using hv ρ⟩⟩
theorem len_bits : ∀ c : Fin 256, c.val < 2 ^ Lib.bitLen c.val ∧ Lib.bitLen c.val ≤ 8 := by decide +kernel
theorem bitsLen_rc (m : Mem) (c : Nat) : c < 256 → RC Try.prog 114 [.int .u64 (c : Int)] m fun r new => r = .int .i64 ((Lib.bitLen c : Nat) : Int) ∧ new = [] := by
  intro hc
  refine rc_plain9 ok_math_bits_Len.fn9 (fun ρ => .int _ _) fun ρ w cargs hm ha => ?_
  obtain ⟨hl, hp⟩ := ha
  match cargs, hl with
  | [y], _ =>
    have hy := hp 0 (.int .u64 (c : Int)) y rfl rfl
    cases hy
    refine (Try.bits_Len (c : Int) w (by omega) (by omega)).mono ?_
    rintro e w' ⟨rfl, rfl⟩
    exact ⟨by rw [Int.toNat_natCast], Below.refl _ _⟩
theorem allPeriods_rc (m : Mem) (n : Nat) (hn : n ≤ 8) : RC Try.prog 107 [.int .i64 (n : Int)] m fun r new => r = .int .u64 ((2 ^ n - 1 : Nat) : Int) ∧ new = [] := by
  refine rc_of_run mixed ok_impl_allPeriods (by simp) (go_start _ _ _ ?_)
  have hn0 : ¬ ((n : Int) < 0) := by omega
  simp (config := {implicitDefEqProofs := false, maxDischargeDepth := 20}) (disch := first | omega | (simp only [lenE]; done) | (simp only [lenE]; omega) | rfl | (simp only [lenE, markR_len]; done) | (simp only [lenE, markR_len]; omega)) only [runE, mapE, listE, initT_5, initT_6, initT_7, initT_8, resV, oneV, binA, unA, reduceCtorEq, Nat.reduceEqDiff, Nat.reduceAdd, Nat.reduceLT, Nat.reduceLeDiff, Nat.reduceMul, Nat.reduceSub, ↓reduceIte, decide_true, decide_false, Bool.true_eq_false, Bool.false_eq_true, Bool.not_true, Bool.not_false, if_true, if_false, and_true, true_and, memE, celE, w64, Nat.zero_add, Nat.add_zero, Nat.mul_one, putL, and_self, ldn, c_impl_allPeriods, r_impl_allPeriods, hn0]
  have e1 : min ((n : Nat) : Int).toNat IntKind.u64.bits = n := by
    have : IntKind.u64.bits = 64 := rfl
    rw [this]; omega
  have h2 : 2 ^ n ≤ 2 ^ 8 := Nat.pow_le_pow_right (by omega) hn
  have h1 : 1 ≤ 2 ^ n := Nat.one_le_two_pow
  have e2 : (2 : Int) ^ n = ((2 ^ n : Nat) : Int) := by simp
  obtain ⟨N, hN⟩ : ∃ N : Nat, N = 2 ^ n := ⟨_, rfl⟩
  rw [e1, Int.one_mul, e2]
  rw [← hN] at h2 h1 ⊢
  rw [wrapU (N : Int) ⟨by omega, by omega⟩, wrapU ((N : Int) - 1) ⟨by omega, by omega⟩]
  exact newQ_nil ⟨by congr 1; omega, rfl⟩
theorem bitsL_stop {c L : Nat} (h : c < 2 ^ L) : ∀ k, bitsL c (L + k) = bitsL c L := by
  intro k
  induction k with
  | zero => rfl
  | succ k ih =>
    have h1 : c < 2 ^ (L + k) := Nat.lt_of_lt_of_le h (Nat.pow_le_pow_right (by omega) (by omega))
    have h2 : c / 2 ^ (L + k) = 0 := Nat.div_eq_of_lt h1
    rw [← Nat.add_assoc, bitsL, h2, if_neg (by simp), ih]
theorem bitsL_same {c L n : Nat} (h : c < 2 ^ L) (h' : c < 2 ^ n) : bitsL c L = bitsL c n := by
  rcases Nat.le_total L n with e | e
  · have := bitsL_stop h (n - L)
    rw [show L + (n - L) = n by omega] at this
    exact this.symm
  · have := bitsL_stop h' (L - n)
    rw [show n + (L - n) = L by omega] at this
    exact this
theorem and1U (x : Nat) (h : x ≤ 1000) : IntKind.wrap .u64 (((BitVec.ofInt IntKind.u64.bits (x : Int) &&& BitVec.ofInt IntKind.u64.bits 1).toNat : Nat) : Int) = ((x % 2 : Nat) : Int) := by
  rw [show ((BitVec.ofInt IntKind.u64.bits (x : Int) &&& BitVec.ofInt IntKind.u64.bits 1).toNat) = x % 2 from and1 x]
  exact wrapU _ ⟨by omega, by omega⟩
theorem shrU {c x : Nat} (h : x ≤ 63) : (c : Int).fdiv (2 ^ (min ((x : Nat) : Int).toNat IntKind.u64.bits)) = ((c / 2 ^ x : Nat) : Int) := shr_code h
theorem setList_rc (m : Mem) (n c : Nat) (hn : n ≤ 8) (hc : c < 2 ^ n) : RC Try.prog 108 [.int .u64 (c : Int)] m (AnsR m (bitsL c n)) := by
  refine rc_of_run mixed ok_impl_periodSet__list (by simp) (go_start _ _ _ ?_)
  have h28 : 2 ^ n ≤ 2 ^ 8 := Nat.pow_le_pow_right (by omega) hn
  have hc8 : c < 256 := by omega
  obtain ⟨hb1, hb2⟩ := len_bits ⟨c, hc8⟩
  obtain ⟨L, hL⟩ : ∃ L, L = Lib.bitLen c := ⟨_, rfl⟩
  simp only at hb1 hb2
  have K : ∀ m, RC Try.prog 114 [.int .u64 (c : Int)] m fun r new => r = .int .i64 (L : Int) ∧ new = [] := fun m => by rw [hL]; exact bitsLen_rc m c hc8
  rw [← hL] at hb1 hb2
  rw [bitsL_same hc hb1]
  simp (config := {implicitDefEqProofs := false, maxDischargeDepth := 20}) (disch := first | omega | (simp only [lenE]; done) | (simp only [lenE]; omega) | rfl | (simp only [lenE, markR_len]; done) | (simp only [lenE, markR_len]; omega)) only [runE, mapE, listE, initT_5, initT_6, initT_7, initT_8, resV, oneV, binA, unA, reduceCtorEq, Nat.reduceEqDiff, Nat.reduceAdd, Nat.reduceLT, Nat.reduceLeDiff, Nat.reduceMul, Nat.reduceSub, ↓reduceIte, decide_true, decide_false, Bool.true_eq_false, Bool.false_eq_true, Bool.not_true, Bool.not_false, if_true, if_false, and_true, true_and, memE, celE, w64, Nat.zero_add, Nat.add_zero, Nat.mul_one, putL, and_self, ldn, c_impl_periodSet__list, r_impl_periodSet__list, bsl_none]
  refine callH_rc (K _) ?_
  rintro r new ⟨rfl, rfl⟩
  simp (config := {implicitDefEqProofs := false, maxDischargeDepth := 20}) (disch := first | omega | (simp only [lenE]; done) | (simp only [lenE]; omega) | rfl | (simp only [lenE, markR_len]; done) | (simp only [lenE, markR_len]; omega)) only [runE, mapE, listE, initT_5, initT_6, initT_7, initT_8, resV, oneV, binA, unA, reduceCtorEq, Nat.reduceEqDiff, Nat.reduceAdd, Nat.reduceLT, Nat.reduceLeDiff, Nat.reduceMul, Nat.reduceSub, ↓reduceIte, decide_true, decide_false, Bool.true_eq_false, Bool.false_eq_true, Bool.not_true, Bool.not_false, if_true, if_false, and_true, true_and, memE, celE, w64, Nat.zero_add, Nat.add_zero, Nat.mul_one, putL, and_self, ldn]
  refine loop_inv mixed (fun s => ∃ (x : Nat) (M : Mem) (id : Nat), x ≤ L ∧ s.t 0 = .int .u64 (c : Int) ∧ s.t 3 = .slice (some ⟨id, 0, none⟩) (bitsL c x).length 1 ∧ s.t 7 = .int .i64 (L : Int) ∧ s.t 8 = .int .i64 x ∧ s.m = M ∧ Ext m M ∧ OwnR M id (bitsL c x) ∧ m.length ≤ id) (fun s => L - (intOf (s.t 8)).toNat)
    ⟨0, _, m.length, by omega, rfl, by simp only [put_t, put_t', put_m, putT_t, putT_t', putT_m, init_t, init_m, initT_0, initT_1, initT_2, initT_3, initT_4, initT_5, initT_6, initT_7, initT_8, Nat.reduceEqDiff, ↓reduceIte]; rfl, rfl, rfl, rfl, (Ext.refl m).one _ _, OwnR.end' (l := []) (by simp [roM_len]), Nat.le_refl _⟩ ?_
  rintro s ⟨x, M, id, hk, t0, t3, t7, t8, tm, hx, oM, lid⟩
  by_cases hlt : x < L
  · have hlt' : (x : Int) < L := by omega
    have hx0 : ¬ ((x : Int) < 0) := by omega
    have hd : c / 2 ^ x ≤ 1000 := Nat.le_trans (Nat.div_le_self _ _) (by omega)
    have bl := bitsL_len c x
    have aw := and1U (c / 2 ^ x) hd
    by_cases hb : c / 2 ^ x % 2 = 1
    · have hb' : (((c / 2 ^ x % 2 : Nat) : Int) == 1) = true := by rw [hb]; rfl
      simp (config := {implicitDefEqProofs := false, maxDischargeDepth := 20}) (disch := first | omega | (simp only [lenE]; done) | (simp only [lenE]; omega) | rfl | (simp only [lenE, markR_len]; done) | (simp only [lenE, markR_len]; omega)) only [runE, mapE, listE, initT_5, initT_6, initT_7, initT_8, resV, oneV, binA, unA, reduceCtorEq, Nat.reduceEqDiff, Nat.reduceAdd, Nat.reduceLT, Nat.reduceLeDiff, Nat.reduceMul, Nat.reduceSub, ↓reduceIte, decide_true, decide_false, Bool.true_eq_false, Bool.false_eq_true, Bool.not_true, Bool.not_false, if_true, if_false, and_true, true_and, memE, celE, w64, Nat.zero_add, Nat.add_zero, Nat.mul_one, putL, and_self, ldn, t0, t3, t7, t8, tm, hlt', hx0, shrU (c := c) (show x ≤ 63 by omega), aw, hb', bsl_one, app_gen oM (by omega)]
      refine ⟨⟨x + 1, _, M.length + 1, by omega, by rw [bitsL, if_pos hb]; simp, by simp, rfl, ((hx.dead lid).one _ _).one _ _, ?_, by have := hx.len; omega⟩, by simp [intOf]; omega⟩
      rw [bitsL, if_pos hb]
      have := OwnR.at_end (M.set id deadB ++ [⟨.own, 3, [.int .i64 (x : Int)]⟩]) (bitsL c x ++ [(x : Int)])
      simpa using this
    · have hb' : (((c / 2 ^ x % 2 : Nat) : Int) == 1) = false := by
        have : c / 2 ^ x % 2 = 0 := by omega
        rw [this]; rfl
      simp (config := {implicitDefEqProofs := false, maxDischargeDepth := 20}) (disch := first | omega | (simp only [lenE]; done) | (simp only [lenE]; omega) | rfl | (simp only [lenE, markR_len]; done) | (simp only [lenE, markR_len]; omega)) only [runE, mapE, listE, initT_5, initT_6, initT_7, initT_8, resV, oneV, binA, unA, reduceCtorEq, Nat.reduceEqDiff, Nat.reduceAdd, Nat.reduceLT, Nat.reduceLeDiff, Nat.reduceMul, Nat.reduceSub, ↓reduceIte, decide_true, decide_false, Bool.true_eq_false, Bool.false_eq_true, Bool.not_true, Bool.not_false, if_true, if_false, and_true, true_and, memE, celE, w64, Nat.zero_add, Nat.add_zero, Nat.mul_one, putL, and_self, ldn, t0, t3, t7, t8, tm, hlt', hx0, shrU (c := c) (show x ≤ 63 by omega), aw, hb']
      exact ⟨⟨x + 1, M, id, by omega, by rw [bitsL, if_neg hb], by simp, rfl, hx, by rw [bitsL, if_neg hb]; exact oM, lid⟩, by simp [intOf]; omega⟩
  · have hlt' : ¬ ((x : Int) < L) := by omega
    have e : x = L := by omega
    subst e
    have := bitsL_len c x
    simp (config := {implicitDefEqProofs := false, maxDischargeDepth := 20}) (disch := first | omega | (simp only [lenE]; done) | (simp only [lenE]; omega) | rfl | (simp only [lenE, markR_len]; done) | (simp only [lenE, markR_len]; omega)) only [runE, mapE, listE, initT_5, initT_6, initT_7, initT_8, resV, oneV, binA, unA, reduceCtorEq, Nat.reduceEqDiff, Nat.reduceAdd, Nat.reduceLT, Nat.reduceLeDiff, Nat.reduceMul, Nat.reduceSub, ↓reduceIte, decide_true, decide_false, Bool.true_eq_false, Bool.false_eq_true, Bool.not_true, Bool.not_false, if_true, if_false, and_true, true_and, memE, celE, w64, Nat.zero_add, Nat.add_zero, Nat.mul_one, putL, and_self, ldn, t0, t3, t7, t8, tm, hlt']
    exact ext_ansR hx oM (by omega) rfl (by omega)
/-- The best of the first c sets, of those that have a cost. -/
def bestO (g : List Int → Option Int) (n : Nat) : Nat → Option (Int × List Int)
  | 0 => none
  | c + 1 => match g (bitsL c n) with
    | none => bestO g n c
    | some x => match bestO g n c with
      | none => some (x, bitsL c n)
      | some b => if bef (x, bitsL c n) b then some (x, bitsL c n) else some b
def bestV (b : Option (Int × List Int)) : Int × List Int := b.getD (9223372036854775807, [])
theorem bestO_no {g : List Int → Option Int} {n c : Nat} (h : g (bitsL c n) = none) : bestO g n (c + 1) = bestO g n c := by simp only [bestO, h]
theorem bestO_yes {g : List Int → Option Int} {n c : Nat} {x : Int} (h : g (bitsL c n) = some x) (hx : x < 9223372036854775807) : bestO g n (c + 1) = some (if bef (x, bitsL c n) (bestV (bestO g n c)) then (x, bitsL c n) else bestV (bestO g n c)) := by
  simp only [bestO, h]
  cases hb : bestO g n c with
  | none =>
    have : bef (x, bitsL c n) (bestV none) = true := by
      unfold bestV bef
      simp only [Option.getD_none]
      rw [if_neg (by omega)]
      exact decide_eq_true hx
    simp only [this, if_true]
  | some b =>
    simp only [bestV, Option.getD_some]
    by_cases e : bef (x, bitsL c n) b = true
    · simp [e]
    · simp [e]
theorem bestO_len (g : List Int → Option Int) (n : Nat) : ∀ c, (bestV (bestO g n c)).2.length ≤ n := by
  intro c
  induction c with
  | zero => simp [bestO, bestV]
  | succ c ih =>
    cases hg : g (bitsL c n) with
    | none => rw [bestO_no hg]; exact ih
    | some x =>
      simp only [bestO, hg]
      cases hb : bestO g n c with
      | none => simp only [bestV, Option.getD_some]; exact bitsL_len _ _
      | some b =>
        rw [hb] at ih
        simp only [bestV, Option.getD_some] at ih
        by_cases e : bef (x, bitsL c n) b = true
        · simp only [e, if_true, bestV, Option.getD_some]; exact bitsL_len _ _
        · simp only [Bool.not_eq_true] at e
          simp only [e, Bool.false_eq_true, if_false, bestV, Option.getD_some]; exact ih
/-- A function value that tells the cost of a set, if it has one. -/
def CostF (m : Mem) (fv : Value) (n : Nat) (g : List Int → Option Int) : Prop :=
  ∃ f cap, fv = .func (.func f) #[] cap ∧ ∀ (M : Mem) (u : Value) (c : Nat), Ext m M → c < 2 ^ n → IntsA M u (bitsL c n) → RC Try.prog f (u :: cap.toList) M (AnsV (.tuple #[.int .i64 ((g (bitsL c n)).getD 0), .bool (g (bitsL c n)).isSome]))
theorem bldL (x : Int) : bldA [.int .i64 0, .slice none 0 0] [(0, 1, .int .i64 x)] = some (.agg #[.int .i64 x, .slice none 0 0]) := rfl
theorem bldL2 (x : Int) (A : Option Addr) (n c : Nat) : bldA [.int .i64 0, .slice none 0 0] [(0, 1, .int .i64 x), (1, 1, .slice A n c)] = some (.agg #[.int .i64 x, .slice A n c]) := rfl
theorem stP_aggL2 (m : Mem) (id off : Nat) (u v : Value) : stP m 2 (.pointer (some ⟨id, off, none⟩)) (.agg #[u, v]) = stA m id off [u, v] := rfl
/-- A list that is nil, or a row of its own behind a mark. -/
def ListV (p : Prop) (M : Mem) (k : Nat) (v : Value) (l : List Int) : Prop := (p ∧ v = .slice none 0 0 ∧ l = []) ∨ ∃ id fl, v = .slice (some ⟨id, 0, none⟩) l.length fl ∧ k < id ∧ OwnR M id l
theorem ListV.ints {p : Prop} {M : Mem} {k : Nat} {v : Value} {l : List Int} (h : ListV p M k v l) (hb : l.length ≤ 1000) : IntsA M v l := by
  rcases h with ⟨_, rfl, rfl⟩ | ⟨id, fl, rfl, _, ho⟩
  · exact IntsA.nil M
  · exact ho.ints (by omega) fl
theorem ListV.ext {p : Prop} {M : Mem} {k : Nat} {v : Value} {l : List Int} (h : ListV p M k v l) (new : Mem) : ListV p (M ++ new) k v l := by
  rcases h with ⟨hp, rfl, rfl⟩ | ⟨id, fl, rfl, hk, ho⟩
  · exact .inl ⟨hp, rfl, rfl⟩
  · exact .inr ⟨id, fl, rfl, hk, ho.ext new⟩
theorem ListV.set {p : Prop} {M : Mem} {k i : Nat} {v : Value} {l : List Int} (h : ListV p M k v l) (hi : i ≤ k) (b : Blk) : ListV p (M.set i b) k v l := by
  rcases h with ⟨hp, rfl, rfl⟩ | ⟨id, fl, rfl, hk, ho⟩
  · exact .inl ⟨hp, rfl, rfl⟩
  · exact .inr ⟨id, fl, rfl, hk, ho.set_ne (by omega)⟩
theorem ListV.one {p : Prop} {M : Mem} {k : Nat} {v : Value} {l : List Int} (h : ListV p M k v l) (xs : List Value) : onesB (v :: xs) = onesB xs := by
  rcases h with ⟨_, rfl, rfl⟩ | ⟨id, fl, rfl, hk, ho⟩ <;> rfl
def AnsBest (p : Prop) (m : Mem) (x : Int) (l : List Int) (r : Value) (new : Mem) : Prop := NoRo new ∧ ∃ v, r = .agg #[.int .i64 x, v] ∧ ListV p (m ++ new) m.length v l
theorem ext_best {p : Prop} {m M : Mem} {x : Int} {l : List Int} {v : Value} (h : Ext m M) (hv : ListV p M m.length v l) : newQ m (AnsBest p m x l) (.agg #[.int .i64 x, v]) M := by
  obtain ⟨n0, rfl, h0⟩ := h
  refine ⟨n0, rfl, h0, h0, v, rfl, ?_⟩
  rcases hv with ⟨hp, rfl, rfl⟩ | ⟨id, fl, rfl, hk, ho⟩
  · exact .inl ⟨hp, rfl, rfl⟩
  · exact .inr ⟨id, fl, rfl, hk, ho.at_ (by rw [List.getElem?_append_right (by omega), List.getElem?_append_right (by rw [roM_len]; omega), roM_len])⟩
theorem bestOfSets_rc (m : Mem) (fv : Value) (n : Nat) (g : List Int → Option Int) (hn : n ≤ 8) (hf : CostF m fv n g) (hg : ∀ c x, c < 2 ^ n → g (bitsL c n) = some x → x < 9223372036854775807) :
    RC Try.prog 84 [.int .i64 (n : Int), fv] m (AnsBest (bestO g n (2 ^ n) = none) m (bestV (bestO g n (2 ^ n))).1 (bestV (bestO g n (2 ^ n))).2) := by
  refine rc_of_run mixed ok_impl_bestOfSets (by simp) (go_start _ _ _ ?_)
  obtain ⟨f, cap, rfl, hC⟩ := hf
  have hX := ((Ext.refl m).one 83 [.int .i64 0, .slice none 0 0]).one 83 [.int .i64 9223372036854775807, .slice none 0 0]
  obtain ⟨M0, hM0⟩ : ∃ M0, M0 = roM m ++ [⟨.own, 83, [.int .i64 0, .slice none 0 0]⟩] ++ [⟨.own, 83, [.int .i64 9223372036854775807, .slice none 0 0]⟩] := ⟨_, rfl⟩
  have o1 : OwnB M0 m.length 83 [.int .i64 0, .slice none 0 0] := by rw [hM0]; exact (OwnB.here (by simp [roM_len])).ext _
  have o2 : OwnB M0 (m.length + 1) 83 [.int .i64 9223372036854775807, .slice none 0 0] := by rw [hM0]; exact OwnB.here (by simp [roM_len])
  have h28 : 2 ^ n ≤ 2 ^ 8 := Nat.pow_le_pow_right (by omega) hn
  have h1 : 1 ≤ 2 ^ n := Nat.one_le_two_pow
  obtain ⟨NN, hNN⟩ : ∃ NN, NN = 2 ^ n := ⟨_, rfl⟩
  rw [← hNN] at h28 h1 hC hg ⊢
  have KA := fun m' => allPeriods_rc m' n hn
  rw [← hNN] at KA
  have eN : ((NN - 1 : Nat) : Int) + 1 = (NN : Int) := by omega
  have wN : IntKind.u64.wrap (NN : Int) = (NN : Int) := wrapU _ ⟨by omega, by omega⟩
  simp (config := {implicitDefEqProofs := false, maxDischargeDepth := 20}) (disch := first | omega | (simp only [lenE]; done) | (simp only [lenE]; omega) | rfl | (simp only [lenE, markR_len]; done) | (simp only [lenE, markR_len]; omega)) only [runE, mapE, listE, initT_5, initT_6, initT_7, initT_8, resV, oneV, binA, unA, reduceCtorEq, Nat.reduceEqDiff, Nat.reduceAdd, Nat.reduceLT, Nat.reduceLeDiff, Nat.reduceMul, Nat.reduceSub, ↓reduceIte, decide_true, decide_false, Bool.true_eq_false, Bool.false_eq_true, Bool.not_true, Bool.not_false, if_true, if_false, and_true, true_and, memE, celE, w64, Nat.zero_add, Nat.add_zero, Nat.mul_one, putL, and_self, ldn, c_impl_bestOfSets, r_impl_bestOfSets, bldL, stP_aggL2]
  rw [← hM0] at hX ⊢
  refine callH_rc (KA _) ?_
  rintro r new ⟨rfl, rfl⟩
  rw [List.append_nil]
  simp (config := {implicitDefEqProofs := false, maxDischargeDepth := 20}) (disch := first | omega | (simp only [lenE]; done) | (simp only [lenE]; omega) | rfl | (simp only [lenE, markR_len]; done) | (simp only [lenE, markR_len]; omega)) only [runE, mapE, listE, initT_5, initT_6, initT_7, initT_8, resV, oneV, binA, unA, reduceCtorEq, Nat.reduceEqDiff, Nat.reduceAdd, Nat.reduceLT, Nat.reduceLeDiff, Nat.reduceMul, Nat.reduceSub, ↓reduceIte, decide_true, decide_false, Bool.true_eq_false, Bool.false_eq_true, Bool.not_true, Bool.not_false, if_true, if_false, and_true, true_and, memE, celE, w64, Nat.zero_add, Nat.add_zero, Nat.mul_one, putL, and_self, ldn, eN, wN]
  refine loop_inv mixed (fun s => ∃ (c : Nat) (M : Mem) (pv : Value), c ≤ NN ∧ s.m = M ∧ Ext m M ∧ OwnB M m.length 83 [.int .i64 0, .slice none 0 0] ∧ OwnB M (m.length + 1) 83 [.int .i64 (bestV (bestO g n c)).1, pv] ∧ ListV (bestO g n c = none) M (m.length + 1) pv (bestV (bestO g n c)).2 ∧
      s.t 1 = .func (.func f) #[] cap ∧ s.t 4 = .pointer (some ⟨m.length, 0, none⟩) ∧ s.t 5 = .pointer (some ⟨m.length + 1, 0, none⟩) ∧ s.t 14 = .int .u64 (NN : Int) ∧ s.t 15 = .int .u64 (c : Int)) (fun s => NN - (intOf (s.t 15)).toNat)
    ⟨0, M0, .slice none 0 0, by omega, (by first | rfl | simp only [put_t, put_t', put_m, putT_t, putT_t', putT_m, init_t, init_m, initT_0, initT_1, initT_2, initT_3, initT_4, initT_5, initT_6, initT_7, initT_8, Nat.reduceEqDiff, ↓reduceIte]), hX, o1, o2, .inl ⟨rfl, rfl, rfl⟩, rfl, rfl, rfl, rfl, rfl⟩ ?_
  clear hX o1 o2 hM0
  rintro s ⟨c, M, pv, hk, tm, hX, o1, o2, hL, t1, t4, t5, t14, t15⟩
  have bl := bestO_len g n c
  have hlm := o2.lt
  by_cases hlt : c < NN
  · have hlt' : (c : Int) < NN := by omega
    simp (config := {implicitDefEqProofs := false, maxDischargeDepth := 20}) (disch := first | omega | (simp only [lenE]; done) | (simp only [lenE]; omega) | rfl | (simp only [lenE, markR_len]; done) | (simp only [lenE, markR_len]; omega)) only [runE, mapE, listE, initT_5, initT_6, initT_7, initT_8, resV, oneV, binA, unA, reduceCtorEq, Nat.reduceEqDiff, Nat.reduceAdd, Nat.reduceLT, Nat.reduceLeDiff, Nat.reduceMul, Nat.reduceSub, ↓reduceIte, decide_true, decide_false, Bool.true_eq_false, Bool.false_eq_true, Bool.not_true, Bool.not_false, if_true, if_false, and_true, true_and, memE, celE, w64, Nat.zero_add, Nat.add_zero, Nat.mul_one, putL, and_self, ldn, tm, t1, t4, t5, t14, t15, hlt']
    refine callH_rc (setList_rc M n c hn (by omega)) ?_
    intro r n1 hA
    obtain ⟨pid, pf, rfl, pge, op, ple, nr1⟩ := hA.row
    have hb := bitsL_len c n
    obtain ⟨ps, hps⟩ : ∃ ps, ps = bitsL c n := ⟨_, rfl⟩
    rw [← hps] at op ple hb ⊢
    replace hX := hX.app nr1
    replace o1 := o1.ext n1
    replace o2 := o2.ext n1
    replace hL := hL.ext n1
    obtain ⟨M1, hM1⟩ : ∃ M1, M1 = M ++ n1 := ⟨_, rfl⟩
    rw [← hM1] at hX o1 o2 hL op ⊢
    have ip := op.ints (by omega) pf
    simp (config := {implicitDefEqProofs := false, maxDischargeDepth := 20}) (disch := first | omega | (simp only [lenE]; done) | (simp only [lenE]; omega) | rfl | (simp only [lenE, markR_len]; done) | (simp only [lenE, markR_len]; omega)) only [runE, mapE, listE, initT_5, initT_6, initT_7, initT_8, resV, oneV, binA, unA, reduceCtorEq, Nat.reduceEqDiff, Nat.reduceAdd, Nat.reduceLT, Nat.reduceLeDiff, Nat.reduceMul, Nat.reduceSub, ↓reduceIte, decide_true, decide_false, Bool.true_eq_false, Bool.false_eq_true, Bool.not_true, Bool.not_false, if_true, if_false, and_true, true_and, memE, celE, w64, Nat.zero_add, Nat.add_zero, Nat.mul_one, putL, and_self, ldn, t1]
    have KC := hC M1 (.slice (some ⟨pid, 0, none⟩) ps.length pf) c hX (by omega) (by rw [← hps]; exact ip)
    rw [← hps] at KC
    refine callH_rc KC ?_
    rintro r n2 ⟨rfl, nr2⟩
    replace hX := hX.app nr2
    replace o1 := o1.ext n2
    replace o2 := o2.ext n2
    replace hL := hL.ext n2
    replace op := op.ext n2
    obtain ⟨M2, hM2⟩ : ∃ M2, M2 = M1 ++ n2 := ⟨_, rfl⟩
    rw [← hM2] at hX o1 o2 hL op ⊢
    have wC : IntKind.u64.wrap ((c : Int) + 1) = (c : Int) + 1 := wrapU _ ⟨by omega, by omega⟩
    cases hgp : g ps with
    | none =>
      simp (config := {implicitDefEqProofs := false, maxDischargeDepth := 20}) (disch := first | omega | (simp only [lenE]; done) | (simp only [lenE]; omega) | rfl | (simp only [lenE, markR_len]; done) | (simp only [lenE, markR_len]; omega)) only [runE, mapE, listE, initT_5, initT_6, initT_7, initT_8, resV, oneV, binA, unA, reduceCtorEq, Nat.reduceEqDiff, Nat.reduceAdd, Nat.reduceLT, Nat.reduceLeDiff, Nat.reduceMul, Nat.reduceSub, ↓reduceIte, decide_true, decide_false, Bool.true_eq_false, Bool.false_eq_true, Bool.not_true, Bool.not_false, if_true, if_false, and_true, true_and, memE, celE, w64, Nat.zero_add, Nat.add_zero, Nat.mul_one, putL, and_self, ldn, ext_2_0, ext_2_1, bldL2, stP_aggL2, t1, t4, t5, t14, t15, goG_undef, Option.isSome_none, Option.getD_none, wC]
      refine ⟨⟨c + 1, _, pv, by omega, rfl, hX.one _ _, o1.ext _, ?_, ?_, by simp⟩, ?_⟩
      · rw [bestO_no (by rw [← hps]; exact hgp)]; exact o2.ext _
      · rw [bestO_no (by rw [← hps]; exact hgp)]; exact hL.ext _
      · simp [intOf]; omega
    | some x =>
      simp (config := {implicitDefEqProofs := false, maxDischargeDepth := 20}) (disch := first | omega | (simp only [lenE]; done) | (simp only [lenE]; omega) | rfl | (simp only [lenE, markR_len]; done) | (simp only [lenE, markR_len]; omega)) only [runE, mapE, listE, initT_5, initT_6, initT_7, initT_8, resV, oneV, binA, unA, reduceCtorEq, Nat.reduceEqDiff, Nat.reduceAdd, Nat.reduceLT, Nat.reduceLeDiff, Nat.reduceMul, Nat.reduceSub, ↓reduceIte, decide_true, decide_false, Bool.true_eq_false, Bool.false_eq_true, Bool.not_true, Bool.not_false, if_true, if_false, and_true, true_and, memE, celE, w64, Nat.zero_add, Nat.add_zero, Nat.mul_one, putL, and_self, ldn, ext_2_0, ext_2_1, bldL2, stP_aggL2, t1, t4, t5, t14, t15, Option.isSome_some, Option.getD_some, (o2.ext [⟨.own, 83, [.int .i64 x, .slice (some ⟨pid, 0, none⟩) ps.length pf]⟩]).rd, (o1.ext [⟨.own, 83, [.int .i64 x, .slice (some ⟨pid, 0, none⟩) ps.length pf]⟩]).rd]
      have hyes := bestO_yes (g := g) (n := n) (c := c) (x := x) (by rw [← hps]; exact hgp) (hg c x (by omega) (by rw [← hps]; exact hgp))
      rw [← hps] at hyes
      have ip2 := (op.ext [⟨.own, 83, [.int .i64 x, .slice (some ⟨pid, 0, none⟩) ps.length pf]⟩]).ints (by omega) pf
      have il2 := (hL.ext [⟨.own, 83, [.int .i64 x, .slice (some ⟨pid, 0, none⟩) ps.length pf]⟩]).ints (by omega)
      have ob : OwnB (M2 ++ [⟨.own, 83, [.int .i64 x, .slice (some ⟨pid, 0, none⟩) ps.length pf]⟩]) M2.length 83 [.int .i64 x, .slice (some ⟨pid, 0, none⟩) ps.length pf] := OwnB.here rfl
      have hXb := hX.one 83 [.int .i64 x, .slice (some ⟨pid, 0, none⟩) ps.length pf]
      have o1b := o1.ext [⟨.own, 83, [.int .i64 x, .slice (some ⟨pid, 0, none⟩) ps.length pf]⟩]
      have o2b := o2.ext [⟨.own, 83, [.int .i64 x, .slice (some ⟨pid, 0, none⟩) ps.length pf]⟩]
      have hLb := hL.ext [⟨.own, 83, [.int .i64 x, .slice (some ⟨pid, 0, none⟩) ps.length pf]⟩]
      have opb := op.ext [⟨.own, 83, [.int .i64 x, .slice (some ⟨pid, 0, none⟩) ps.length pf]⟩]
      have m2l : M.length ≤ M2.length := by rw [hM2, hM1]; simp; try omega
      obtain ⟨M3, hM3⟩ : ∃ M3, M3 = M2 ++ [⟨.own, 83, [.int .i64 x, .slice (some ⟨pid, 0, none⟩) ps.length pf]⟩] := ⟨_, rfl⟩
      rw [← hM3] at ip2 il2 ob hXb o1b o2b hLb opb ⊢
      obtain ⟨b, hb9⟩ : ∃ b, b = bestV (bestO g n c) := ⟨_, rfl⟩
      rw [← hb9] at hyes il2 o2b hLb bl ⊢
      obtain ⟨b1, b2⟩ := b
      have hsame : bef (x, ps) (b1, b2) = false → ∀ {p : Prop}, ListV p M3 (m.length + 1) pv b2 := fun hbf p => by
        rcases hLb with ⟨hp, e1, e2⟩ | h9
        · rw [hp] at hb9
          have : (b1, b2) = (9223372036854775807, ([] : List Int)) := hb9
          injection this with i1 i2
          have hx9 := hg c x (by omega) (by rw [← hps]; exact hgp)
          unfold bef at hbf
          simp only [i1] at hbf
          rw [if_neg (by omega)] at hbf
          simp only [decide_eq_false_iff_not] at hbf
          exact absurd hx9 hbf
        · exact .inr h9
      refine callH_rc (comesBefore_rc M3 x b1 _ pv ps b2 ip2 il2) ?_
      rintro r n4 ⟨rfl, nr4⟩
      cases hbf : bef (x, ps) (b1, b2) with
      | true =>
        have st := (o2b.ext n4).st (off := 0) (vs := [.int .i64 x, .slice (some ⟨pid, 0, none⟩) ps.length pf]) (by simp) rfl
        simp (config := {implicitDefEqProofs := false, maxDischargeDepth := 20}) (disch := first | omega | (simp only [lenE]; done) | (simp only [lenE]; omega) | rfl | (simp only [lenE, markR_len]; done) | (simp only [lenE, markR_len]; omega)) only [runE, mapE, listE, initT_5, initT_6, initT_7, initT_8, resV, oneV, binA, unA, reduceCtorEq, Nat.reduceEqDiff, Nat.reduceAdd, Nat.reduceLT, Nat.reduceLeDiff, Nat.reduceMul, Nat.reduceSub, ↓reduceIte, decide_true, decide_false, Bool.true_eq_false, Bool.false_eq_true, Bool.not_true, Bool.not_false, if_true, if_false, and_true, true_and, memE, celE, w64, Nat.zero_add, Nat.add_zero, Nat.mul_one, putL, and_self, ldn, t1, t4, t5, t14, t15, (ob.ext n4).rd, stP_aggL2, st, wC]
        rw [hbf, if_pos rfl] at hyes
        refine ⟨⟨c + 1, _, .slice (some ⟨pid, 0, none⟩) ps.length pf, by omega, rfl, (hXb.app nr4).put (by omega) _ _, (o1b.ext n4).set_ne (by omega) _, ?_, ?_, by simp⟩, ?_⟩
        · rw [hyes]; exact (o2b.ext n4).set_self _ _
        · rw [hyes]; exact .inr ⟨pid, pf, rfl, by omega, (opb.ext n4).set_ne (by omega)⟩
        · simp [intOf]; omega
      | false =>
        simp (config := {implicitDefEqProofs := false, maxDischargeDepth := 20}) (disch := first | omega | (simp only [lenE]; done) | (simp only [lenE]; omega) | rfl | (simp only [lenE, markR_len]; done) | (simp only [lenE, markR_len]; omega)) only [runE, mapE, listE, initT_5, initT_6, initT_7, initT_8, resV, oneV, binA, unA, reduceCtorEq, Nat.reduceEqDiff, Nat.reduceAdd, Nat.reduceLT, Nat.reduceLeDiff, Nat.reduceMul, Nat.reduceSub, ↓reduceIte, decide_true, decide_false, Bool.true_eq_false, Bool.false_eq_true, Bool.not_true, Bool.not_false, if_true, if_false, and_true, true_and, memE, celE, w64, Nat.zero_add, Nat.add_zero, Nat.mul_one, putL, and_self, ldn, t1, t4, t5, t14, t15, wC]
        rw [hbf, if_neg (by simp)] at hyes
        refine ⟨⟨c + 1, _, pv, by omega, rfl, hXb.app nr4, o1b.ext n4, ?_, ?_, by simp⟩, ?_⟩
        · rw [hyes]; exact o2b.ext n4
        · rw [hyes]; exact (hsame hbf).ext n4
        · simp [intOf]; omega
  · have hlt' : ¬ ((c : Int) < NN) := by omega
    have e : c = NN := by omega
    subst e
    have st := o1.st (off := 0) (vs := [.int .i64 (bestV (bestO g n c)).1, pv]) (by simp) (by rw [show onesB [.int .i64 (bestV (bestO g n c)).1, pv] = onesB [pv] from rfl, hL.one]; rfl)
    have se := o1.set_self 83 [.int .i64 (bestV (bestO g n c)).1, pv]
    simp (config := {implicitDefEqProofs := false, maxDischargeDepth := 20}) (disch := first | omega | (simp only [lenE]; done) | (simp only [lenE]; omega) | rfl | (simp only [lenE, markR_len]; done) | (simp only [lenE, markR_len]; omega)) only [runE, mapE, listE, initT_5, initT_6, initT_7, initT_8, resV, oneV, binA, unA, reduceCtorEq, Nat.reduceEqDiff, Nat.reduceAdd, Nat.reduceLT, Nat.reduceLeDiff, Nat.reduceMul, Nat.reduceSub, ↓reduceIte, decide_true, decide_false, Bool.true_eq_false, Bool.false_eq_true, Bool.not_true, Bool.not_false, if_true, if_false, and_true, true_and, memE, celE, w64, Nat.zero_add, Nat.add_zero, Nat.mul_one, putL, and_self, ldn, tm, t1, t4, t5, t14, t15, hlt', o2.rd, stP_aggL2, st, se.rd]
    refine ext_best (hX.put (by omega) _ _) ?_
    rcases hL.set (i := m.length) (by omega) ⟨.own, 83, [.int .i64 (bestV (bestO g n c)).1, pv]⟩ with h0 | ⟨id, fl, e1, e2, e3⟩
    · exact .inl h0
    · exact .inr ⟨id, fl, e1, by omega, e3⟩
end Go.Proofs.Ytihjcjhnkpkomaa.Ab
