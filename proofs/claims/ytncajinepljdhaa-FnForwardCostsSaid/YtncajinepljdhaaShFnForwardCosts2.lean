/- What the law needs of the texts that it rests on. -/
import Derived.Test.YtncajinepljdhaaShFnForwardCosts1
section
namespace Go.Proofs.Ytncajinepljdhaa.Ab
open Go Go.RowKit
set_option linter.unusedVariables false
set_option linter.unusedSimpArgs false
structure Gw (mid : Nat) (m m' : Mem) : Prop where
  len : m.length ≤ m'.length
  old : ∀ id, id < m.length → id ≠ mid → m'[id]? = m[id]?
  new : ∀ id b, m.length ≤ id → m'[id]? = some b → b.kd ≠ .ro
  at_ : ∀ b, m'[mid]? = some b → b.kd ≠ .ro
theorem Gw.refl {mid : Nat} {m : Mem} (h : ∀ b, m[mid]? = some b → b.kd ≠ .ro) : Gw mid m m :=
  ⟨Nat.le_refl _, fun _ _ _ => rfl, fun id b h1 h2 => absurd (List.getElem?_eq_some_iff.1 h2).1 (by omega), h⟩
theorem Gw.app {mid : Nat} {m m' new : Mem} (h : Gw mid m m') (hn : NoRo new) : Gw mid m (m' ++ new) := by
  have key : ∀ (id : Nat) (b : Blk), (m' ++ new)[id]? = some b → m'[id]? = some b ∨ b.kd ≠ .ro := by
    intro id b hb
    by_cases hi : id < m'.length
    · rw [List.getElem?_append_left hi] at hb; exact .inl hb
    · rw [List.getElem?_append_right (by omega)] at hb; exact .inr (hn b (List.mem_of_getElem? hb))
  refine ⟨by rw [List.length_append]; have := h.len; omega, fun id h1 h2 => ?_, fun id b h1 h2 => ?_, fun b h2 => ?_⟩
  · rw [List.getElem?_append_left (by have := h.len; omega)]; exact h.old id h1 h2
  · rcases key id b h2 with h3 | h3
    · exact h.new id b h1 h3
    · exact h3
  · rcases key mid b h2 with h3 | h3
    · exact h.at_ b h3
    · exact h3
theorem Gw.one {mid : Nat} {m m' : Mem} (h : Gw mid m m') (e : TypeId) (cs : List Value) : Gw mid m (m' ++ [⟨.own, e, cs⟩]) := h.app (noRo_own noRo_nil)
theorem Gw.set {mid : Nat} {m m' : Mem} (h : Gw mid m m') {id : Nat} {b : Blk} (hid : m.length ≤ id ∨ id = mid) (hb : b.kd ≠ .ro) : Gw mid m (m'.set id b) := by
  refine ⟨by rw [List.length_set]; exact h.len, fun i h1 h2 => ?_, fun i b2 h1 h2 => ?_, fun b2 h2 => ?_⟩
  · rw [List.getElem?_set_ne (by omega)]; exact h.old i h1 h2
  · rcases at_set h2 with ⟨_, h3⟩ | ⟨_, h3, _⟩
    · exact h.new i b2 h1 h3
    · rw [← h3]; exact hb
  · rcases at_set h2 with ⟨_, h3⟩ | ⟨_, h3, _⟩
    · exact h.at_ b2 h3
    · rw [← h3]; exact hb
theorem Gw.trans {mid : Nat} {a b c : Mem} (h : Gw mid a b) (h' : Gw mid b c) : Gw mid a c := by
  have l1 := h.len
  have l2 := h'.len
  refine ⟨by omega, fun i h1 h2 => (h'.old i (by omega) h2).trans (h.old i h1 h2), fun i x h1 h2 => ?_, h'.at_⟩
  by_cases e : i = mid
  · subst e; exact h'.at_ x h2
  · by_cases hi : i < b.length
    · rw [h'.old i hi e] at h2; exact h.new i x h1 h2
    · exact h'.new i x (by omega) h2
theorem Gw.blk {mid : Nat} {m m' : Mem} (h : Gw mid m m') {id : Nat} {b : Blk} (hb : m[id]? = some b) (hne : id ≠ mid) : m'[id]? = some b := by
  rw [h.old id (List.getElem?_eq_some_iff.1 hb).1 hne]; exact hb
theorem rdc_blk {m : Mem} {id k : Nat} {v : Value} (h : rdc m id k = some v) : ∃ b, m[id]? = some b ∧ b.kd ≠ .dead := by
  unfold rdc at h
  cases hm : m[id]? with
  | none => rw [hm] at h; cases h
  | some b =>
    rw [hm] at h
    refine ⟨b, rfl, fun e => ?_⟩
    simp only [e, if_true] at h
    cases h
theorem Gw.rd {mid : Nat} {m m' : Mem} (h : Gw mid m m') {e : TypeId} {cs : List Value} (hd : m[mid]? = some ⟨.dead, e, cs⟩) {id k : Nat} {v : Value} (hv : rdc m id k = some v) : rdc m' id k = some v := by
  obtain ⟨b, hb, hk⟩ := rdc_blk hv
  have hne : id ≠ mid := fun e => by subst e; rw [hd] at hb; cases hb; exact hk rfl
  unfold rdc at hv ⊢
  rw [h.old id (List.getElem?_eq_some_iff.1 hb).1 hne]; exact hv
theorem IntsA.of_at {m m' : Mem} {id off n fl : Nat} {l : List Int} (h : IntsA m (.slice (some ⟨id, off, none⟩) n fl) l) (e : m'[id]? = m[id]?) : IntsA m' (.slice (some ⟨id, off, none⟩) n fl) l := by
  refine ⟨h.len, h.bd, h.at_, fun k hk => ?_, ?_⟩
  · have := h.ld k hk
    simp only [pAt, ldA, rdc] at this ⊢
    rw [e]; exact this
  · have := h.src
    simp only [slR, rdl] at this ⊢
    rw [e]; exact this
theorem Gw.ints {mid : Nat} {m m' : Mem} (h : Gw mid m m') {e : TypeId} {cs : List Value} (hd : m[mid]? = some ⟨.dead, e, cs⟩) {v : Value} {l : List Int} (hi : IntsA m v l) : IntsA m' v l := by
  rcases hi.form with ⟨rfl, rfl⟩ | ⟨id, off, fl, rfl⟩
  · exact IntsA.nil m'
  · have hs := hi.src
    simp only [slR, rdl] at hs
    cases hb : m[id]? with
    | none => rw [hb] at hs; cases hs
    | some b =>
      rw [hb] at hs
      refine hi.of_at (h.old id (List.getElem?_eq_some_iff.1 hb).1 fun e2 => ?_)
      subst e2
      rw [hd] at hb
      cases hb
      simp at hs
theorem Gw.case {mid : Nat} {m m' : Mem} (h : Gw mid m m') {e : TypeId} {cs : List Value} (hd : m[mid]? = some ⟨.dead, e, cs⟩) {v : Value} {k : Cs} (hk : CaseA m v k) : CaseA m' v k := by
  obtain ⟨v1, v2, v3, v4, e0, h1, h2, h3, h4⟩ := hk.ok
  exact ⟨v1, v2, v3, v4, e0, h.ints hd h1, h.ints hd h2, h.ints hd h3, h.ints hd h4⟩
theorem Gw.own {mid : Nat} {m m' : Mem} (h : Gw mid m m') {e : TypeId} {cs : List Value} (hd : m[mid]? = some ⟨.dead, e, cs⟩) {id : Nat} {l : List Int} (ho : OwnR m id l) : OwnR m' id l := by
  refine h.blk ho fun e2 => ?_
  subst e2
  have : m[id]? = some (rowB l) := ho
  rw [hd] at this
  cases this
def RowV (M : Mem) (v : Value) (l : List Int) : Prop := (v = .slice none 0 0 ∧ l = []) ∨ ∃ id fl, v = .slice (some ⟨id, 0, none⟩) l.length fl ∧ OwnR M id l ∧ l.length ≤ 1048576
theorem RowV.ints {M : Mem} {v : Value} {l : List Int} (h : RowV M v l) : IntsA M v l := by
  rcases h with ⟨rfl, rfl⟩ | ⟨id, fl, rfl, ho, hl⟩
  · exact IntsA.nil M
  · exact ho.ints (by omega) fl
theorem RowV.keep {M M' : Mem} {v : Value} {l : List Int} (h : RowV M v l) (hk : ∀ id l, OwnR M id l → OwnR M' id l) : RowV M' v l := by
  rcases h with h | ⟨id, fl, h1, ho, hl⟩
  · exact .inl h
  · exact .inr ⟨id, fl, h1, hk id l ho, hl⟩
def LotV (M : Mem) (v : Value) (c : Int) (l : List Int) : Prop := ∃ A ln cp, v = .agg #[.int .i64 c, .slice A ln cp] ∧ RowV M (.slice A ln cp) l
theorem LotV.keep {M M' : Mem} {v : Value} {c : Int} {l : List Int} (h : LotV M v c l) (hk : ∀ id l, OwnR M id l → OwnR M' id l) : LotV M' v c l := by
  obtain ⟨A, ln, cp, h1, h2⟩ := h
  exact ⟨A, ln, cp, h1, h2.keep hk⟩
structure MG (k : Cs) (mid : Nat) (e : TypeId) (es : List Value) (M : Mem) : Prop where
  mp : M[mid]? = some ⟨.dead, e, .bool true :: es⟩
  ok : ∀ x v, lkE es x = some v → ∃ j : Nat, x = j ∧ j ≤ k.need.length ∧ LotV M v (costL k k.need.length (dp k k.need.length j)) (dp k k.need.length j)
  end_ : (lkE es k.need.length).isSome = true
theorem MG.keep {k : Cs} {mid : Nat} {e : TypeId} {es : List Value} {M M' : Mem} (h : MG k mid e es M) (hm : M'[mid]? = M[mid]?) (hk : ∀ id l, OwnR M id l → OwnR M' id l) : MG k mid e es M' :=
  ⟨hm.trans h.mp, fun x v hv => by obtain ⟨j, h1, h2, h3⟩ := h.ok x v hv; exact ⟨j, h1, h2, h3.keep hk⟩, h.end_⟩
theorem MG.app {k : Cs} {mid : Nat} {e : TypeId} {es : List Value} {M : Mem} (h : MG k mid e es M) (R : Mem) : MG k mid e es (M ++ R) :=
  h.keep (List.getElem?_append_left (List.getElem?_eq_some_iff.1 h.mp).1) fun id l ho => ho.ext R
theorem MG.box {k : Cs} {mid : Nat} {e : TypeId} {es : List Value} {M : Mem} (h : MG k mid e es M) {id : Nat} {t : TypeId} {cs : List Value} {b : Blk} (hb : M[id]? = some ⟨.own, t, cs⟩) (ht : t ≠ 3) : MG k mid e es (M.set id b) := by
  refine h.keep (List.getElem?_set_ne fun e2 => ?_) fun i l ho => ho.set_ne fun e2 => ?_
  · subst e2; have := h.mp; rw [hb] at this; cases this
  · subst e2
    have : M[id]? = some (rowB l) := ho
    rw [hb] at this
    cases this
    exact ht rfl
structure LEnv (k : Cs) (v1 v2 v3 v4 : Value) (kb cb nb fb mid : Nat) (e : TypeId) (es : List Value) (m : Mem) : Prop where
  rk : rdc m kb 0 = some (.map (some mid))
  c0 : rdc m cb 0 = some v1
  c1 : rdc m cb 1 = some v2
  c2 : rdc m cb 2 = some v3
  c3 : rdc m cb 3 = some v4
  hc : CaseA m (.agg #[v1, v2, v3, v4]) k
  rn : rdc m nb 0 = some (.int .i64 k.need.length)
  rf : rdc m fb 0 = some (.func (.func 248) #[] #[.pointer (some ⟨kb, 0, none⟩), .pointer (some ⟨cb, 0, none⟩), .pointer (some ⟨nb, 0, none⟩), .pointer (some ⟨fb, 0, none⟩)])
  g : MG k mid e es m
theorem LEnv.gw {k : Cs} {v1 v2 v3 v4 : Value} {kb cb nb fb mid : Nat} {e : TypeId} {es es' : List Value} {m m' : Mem} (h : LEnv k v1 v2 v3 v4 kb cb nb fb mid e es m) (hg : Gw mid m m') (h2 : MG k mid e es' m') :
    LEnv k v1 v2 v3 v4 kb cb nb fb mid e es' m' :=
  ⟨hg.rd h.g.mp h.rk, hg.rd h.g.mp h.c0, hg.rd h.g.mp h.c1, hg.rd h.g.mp h.c2, hg.rd h.g.mp h.c3, hg.case h.g.mp h.hc, hg.rd h.g.mp h.rn, hg.rd h.g.mp h.rf, h2⟩
theorem rdc_lt {m : Mem} {id k : Nat} {v : Value} (h : rdc m id k = some v) : id < m.length := by
  obtain ⟨b, hb, _⟩ := rdc_blk h
  exact (List.getElem?_eq_some_iff.1 hb).1
theorem lkA_mp {M : Mem} {mid : Nat} {e : TypeId} {es : List Value} (h : M[mid]? = some ⟨.dead, e, .bool true :: es⟩) (z : Value) (x : Int) : lkA M true z (.map (some mid)) (.int .i64 x) = some (.tuple #[(lkE es x).getD z, .bool (lkE es x).isSome]) := by
  simp [lkA, mapOf, mapB, h]
theorem mupA_mp {M : Mem} {mid : Nat} {e : TypeId} {es : List Value} (h : M[mid]? = some ⟨.dead, e, .bool true :: es⟩) {x : Int} (hx : lkE es x = none) (v : Value) : mupA M (.map (some mid)) (.int .i64 x) v = some (M.set mid ⟨.dead, e, .bool true :: (es ++ [.tuple #[.int .i64 x, v]])⟩) := by
  simp [mupA, mapOf, mapB, h, hx]
theorem lkE_app : ∀ (es : List Value) (x y : Int) (v : Value), lkE (es ++ [.tuple #[.int .i64 y, v]]) x = match lkE es x with
    | some u => some u
    | none => if y = x then some v else none := by
  intro es
  induction es with
  | nil => intro x y v; simp [lkE]
  | cons a es ih =>
    intro x y v
    rw [List.cons_append]
    cases a with
    | tuple q =>
      simp only [lkE]
      split
      · split
        · rfl
        · exact ih x y v
      · exact ih x y v
    | _ => exact ih x y v
theorem rd_own {M : Mem} {id k : Nat} {t : TypeId} {cs : List Value} (h : M[id]? = some ⟨.own, t, cs⟩) : rdc M id k = cs[k]? := by
  simp [rdc, h]
theorem st2_own {M : Mem} {id : Nat} {t : TypeId} {a b : Value} (h : M[id]? = some ⟨.own, t, [a, b]⟩) (x : Int) (A : Option Addr) (ln cp : Nat) : stA M id 0 [.int .i64 x, .slice A ln cp] = some (M.set id ⟨.own, t, [.int .i64 x, .slice A ln cp]⟩) := by
  simp [stA, h, onesB, Value.oneCell', putL]
theorem dp_beg {k : Cs} {n nx : Nat} (h : nx ≤ n) : beg n (dp k n nx) 0 = nx := ((dp_min k n (n - nx) nx (by omega)).1).2
theorem dp_rising {k : Cs} {n nx : Nat} (h : nx ≤ n) : Rising (dp k n nx) n := ((dp_min k n (n - nx) nx (by omega)).1).1
end Go.Proofs.Ytncajinepljdhaa.Ab
end
section
namespace Go.Proofs.Ytncajinepljdhaa.Ab
open Go Go.RowKit
set_option linter.unusedVariables false
set_option linter.unusedSimpArgs false
theorem bld2 (x : Int) (A : Option Addr) (ln cp : Nat) : bldA [.int .i64 0, .slice none 0 0] [(0, 1, .int .i64 x), (1, 1, .slice A ln cp)] = some (.agg #[.int .i64 x, .slice A ln cp]) := rfl
theorem from_ac (k : Cs) (hg : Good k) (v1 v2 v3 v4 : Value) (kb cb nb fb mid : Nat) (e : TypeId) : ∀ (d first : Nat) (m : Mem) (es : List Value), first + d = k.need.length → LEnv k v1 v2 v3 v4 kb cb nb fb mid e es m →
    AC Try.prog 248 [.int .i64 first, .pointer (some ⟨kb, 0, none⟩), .pointer (some ⟨cb, 0, none⟩), .pointer (some ⟨nb, 0, none⟩), .pointer (some ⟨fb, 0, none⟩)] m fun r m' =>
      ∃ es', Gw mid m m' ∧ LEnv k v1 v2 v3 v4 kb cb nb fb mid e es' m' ∧ (∀ x : Int, x < first → lkE es' x = lkE es x) ∧ LotV m' r (costL k k.need.length (dp k k.need.length first)) (dp k k.need.length first) := by
  intro d
  induction d using Nat.strongRecOn with
  | _ d ih =>
    intro first m es hfd hE
    refine ac_of_run mixed ok_impl_lotsFrom_1 (by simp) (go_start _ _ _ ?_)
    have h8 := hg.n8
    obtain ⟨n, hn⟩ : ∃ n, n = k.need.length := ⟨_, rfl⟩
    have hkb := rdc_lt hE.rk
    have hcb := rdc_lt hE.c0
    have hnb := rdc_lt hE.rn
    have hfb := rdc_lt hE.rf
    have hmid := (List.getElem?_eq_some_iff.1 hE.g.mp).1
    have rk := hE.rk
    have c0 := hE.c0
    have c1 := hE.c1
    have c2 := hE.c2
    have c3 := hE.c3
    have rn := hE.rn
    rw [← hn] at h8 rn hfd
    have lk : ∀ R : Mem, lkA (m ++ R) true (.agg #[.int .i64 0, .slice none 0 0]) (.map (some mid)) (.int .i64 first) = some (.tuple #[(lkE es first).getD (.agg #[.int .i64 0, .slice none 0 0]), .bool (lkE es first).isSome]) := fun R => lkA_mp (hE.g.app R).mp _ _
    have g0 : Gw mid m m := Gw.refl fun b hb => by rw [hE.g.mp] at hb; cases hb; simp
    cases hl : lkE es first with
    | some v =>
      obtain ⟨j, hj, hjn, A, ln, cp, rfl, hrow⟩ := hE.g.ok _ _ hl
      have hj' : first = j := by omega
      subst hj'
      simp only [hl, Option.getD_some, Option.isSome_some] at lk
      simp (config := {implicitDefEqProofs := false, maxDischargeDepth := 20}) (disch := first | omega | (simp only [lenE]; done) | (simp only [lenE]; omega) | rfl | (simp only [lenE, markR_len]; done) | (simp only [lenE, markR_len]; omega)) only [runE, mapE, listE, initT_5, initT_6, initT_7, initT_8, resV, oneV, binA, unA, reduceCtorEq, Nat.reduceEqDiff, Nat.reduceAdd, Nat.reduceLT, Nat.reduceLeDiff, Nat.reduceMul, Nat.reduceSub, ↓reduceIte, decide_true, decide_false, Bool.true_eq_false, Bool.false_eq_true, Bool.not_true, Bool.not_false, if_true, if_false, and_true, true_and, memE, celE, w64, Nat.zero_add, Nat.add_zero, Nat.mul_one, putL, and_self, ldn, c_impl_lotsFrom_1, r_impl_lotsFrom_1, rk, lk, ext_2_0, ext_2_1, stP_aggL]
      have gw := (g0.one 87 [.int .i64 (costL k k.need.length (dp k k.need.length first)), .slice A ln cp]).one 87 [.int .i64 (costL k k.need.length (dp k k.need.length first)), .slice A ln cp]
      exact ⟨es, gw, hE.gw gw ((hE.g.app _).app _), fun x _ => rfl, A, ln, cp, rfl, hrow.keep fun id l ho => (ho.ext _).ext _⟩
    | none =>
      have hlt : first < n := by
        have := hE.g.end_
        rw [← hn] at this
        rcases Nat.lt_or_ge first n with h | h
        · exact h
        · have e1 : first = n := by omega
          rw [← e1, hl] at this
          cases this
      simp only [hl, Option.getD_none, Option.isSome_none] at lk
      simp (config := {implicitDefEqProofs := false, maxDischargeDepth := 20}) (disch := first | omega | (simp only [lenE]; done) | (simp only [lenE]; omega) | rfl | (simp only [lenE, markR_len]; done) | (simp only [lenE, markR_len]; omega)) only [runE, mapE, listE, initT_5, initT_6, initT_7, initT_8, resV, oneV, binA, unA, reduceCtorEq, Nat.reduceEqDiff, Nat.reduceAdd, Nat.reduceLT, Nat.reduceLeDiff, Nat.reduceMul, Nat.reduceSub, ↓reduceIte, decide_true, decide_false, Bool.true_eq_false, Bool.false_eq_true, Bool.not_true, Bool.not_false, if_true, if_false, and_true, true_and, memE, celE, w64, Nat.zero_add, Nat.add_zero, Nat.mul_one, putL, and_self, ldn, c_impl_lotsFrom_1, r_impl_lotsFrom_1, rk, lk, ext_2_0, ext_2_1, stP_aggL, c0, c1, c2, c3, rn]
      refine callH_rc (orderCost_rc _ _ k first n ((hE.hc.ext _).ext _) hg hlt (by omega)) ?_
      rintro r new ⟨rfl, nr⟩
      simp (config := {implicitDefEqProofs := false, maxDischargeDepth := 20}) (disch := first | omega | (simp only [lenE]; done) | (simp only [lenE]; omega) | rfl | (simp only [lenE, markR_len]; done) | (simp only [lenE, markR_len]; omega)) only [runE, mapE, listE, initT_5, initT_6, initT_7, initT_8, resV, oneV, binA, unA, reduceCtorEq, Nat.reduceEqDiff, Nat.reduceAdd, Nat.reduceLT, Nat.reduceLeDiff, Nat.reduceMul, Nat.reduceSub, ↓reduceIte, decide_true, decide_false, Bool.true_eq_false, Bool.false_eq_true, Bool.not_true, Bool.not_false, if_true, if_false, and_true, true_and, memE, celE, w64, Nat.zero_add, Nat.add_zero, Nat.mul_one, putL, and_self, ldn, bsl_one, stP_aggL, bld2]
      obtain ⟨M1, hM1⟩ : ∃ M1, M1 = m ++ [⟨.own, 87, [.int .i64 0, .slice none 0 0]⟩] ++ [⟨.own, 87, [.int .i64 0, .slice none 0 0]⟩] ++ new := ⟨_, rfl⟩
      have L1 : M1.length = m.length + 1 + 1 + new.length := by rw [hM1]; simp; omega
      have gw1 : Gw mid m M1 := by rw [hM1]; exact ((g0.one _ _).one _ _).app nr
      have mg1 : MG k mid e es M1 := by rw [hM1]; exact ((hE.g.app _).app _).app _
      have b61 : M1[m.length]? = some ⟨.own, 87, [.int .i64 0, .slice none 0 0]⟩ := by rw [hM1]; simp
      have o1 := OwnR.at_end M1 [(first : Int)]
      have hrow0 : RowV (M1 ++ [⟨.own, 3, [(first : Int)].map (Value.int .i64)⟩] ++ [⟨.own, 87, [.int .i64 (spanF k first n), .slice (some ⟨M1.length, 0, none⟩) 1 1]⟩]) (.slice (some ⟨M1.length, 0, none⟩) 1 1) [(first : Int)] :=
        .inr ⟨M1.length, 1, rfl, o1.ext _, by simp⟩
      have hb90 : (M1 ++ [⟨.own, 3, [(first : Int)].map (Value.int .i64)⟩] ++ [⟨.own, 87, [.int .i64 (spanF k first n), .slice (some ⟨M1.length, 0, none⟩) 1 1]⟩])[M1.length + 1]? = some ⟨.own, 87, [.int .i64 (spanF k first n), .slice (some ⟨M1.length, 0, none⟩) 1 1]⟩ := by simp
      have hc0 : spanF k first n = costL k n (dpLoop k n first (dp k n) (first + 1 - 1 - first)) := by
        rw [show first + 1 - 1 - first = 0 by omega, dpLoop, costL_cons, beg_nil, costL_nil]; simp
      have hl0 : [(first : Int)] = dpLoop k n first (dp k n) (first + 1 - 1 - first) := by
        rw [show first + 1 - 1 - first = 0 by omega, dpLoop]
      rw [← hM1, ← L1]
      refine loop_inv mixed (fun s => ∃ (nx : Nat) (M : Mem) (es1 : List Value) (A : Option Addr) (ln cp : Nat), first < nx ∧ nx ≤ n ∧ s.t 0 = .int .i64 first ∧ s.t 1 = .pointer (some ⟨kb, 0, none⟩) ∧ s.t 2 = .pointer (some ⟨cb, 0, none⟩) ∧ s.t 3 = .pointer (some ⟨nb, 0, none⟩) ∧ s.t 4 = .pointer (some ⟨fb, 0, none⟩) ∧ s.t 6 = .pointer (some ⟨m.length, 0, none⟩) ∧ s.t 9 = .pointer (some ⟨M1.length + 1, 0, none⟩) ∧ s.t 10 = .int .i64 nx ∧ s.m = M ∧
          Gw mid m M ∧ MG k mid e es1 M ∧ (∀ x : Int, x ≤ first → lkE es1 x = lkE es x) ∧ M[m.length]? = some ⟨.own, 87, [.int .i64 0, .slice none 0 0]⟩ ∧
          M[M1.length + 1]? = some ⟨.own, 87, [.int .i64 (costL k n (dpLoop k n first (dp k n) (nx - 1 - first))), .slice A ln cp]⟩ ∧ RowV M (.slice A ln cp) (dpLoop k n first (dp k n) (nx - 1 - first))) (fun s => n - (intOf (s.t 10)).toNat)
        ⟨first + 1, _, es, some ⟨M1.length, 0, none⟩, 1, 1, by omega, by omega, rfl, rfl, rfl, rfl, rfl, rfl, rfl, by simp only [put_t, put_t', put_m, putT_t, putT_t', putT_m, init_t, init_m, initT_0, initT_1, initT_2, initT_3, initT_4, initT_5, initT_6, initT_7, initT_8, Nat.reduceEqDiff, ↓reduceIte]; simp, rfl, (gw1.one _ _).one _ _, (mg1.app _).app _, fun x _ => rfl, ?_, ?_, ?_⟩ ?_
      · simp only [put_t, put_t', put_m, putT_t, putT_t', putT_m, init_t, init_m, initT_0, initT_1, initT_2, initT_3, initT_4, initT_5, initT_6, initT_7, initT_8, Nat.reduceEqDiff, ↓reduceIte]
        have := (List.getElem?_eq_some_iff.1 b61).1
        rw [List.getElem?_append_left (by simp; omega), List.getElem?_append_left (by omega)]; exact b61
      · rw [← hc0]; exact hb90
      · rw [← hl0]; exact hrow0
      rintro s ⟨nx, M, es1, A, ln, cp, hnx, hnn, t0, t1, t2, t3, t4, t6, t9, t10, tm, gw, mg, hpre, b6, b9, hrow⟩
      have hE1 := hE.gw gw mg
      have rk := hE1.rk
      have c0 := hE1.c0
      have c1 := hE1.c1
      have c2 := hE1.c2
      have c3 := hE1.c3
      have rn := hE1.rn
      have rf := hE1.rf
      rw [← hn] at rn
      have h6l := (List.getElem?_eq_some_iff.1 b6).1
      have h9l := (List.getElem?_eq_some_iff.1 b9).1
      by_cases hlt2 : nx < n
      · have hlt2' : (nx : Int) < n := by omega
        simp (config := {implicitDefEqProofs := false, maxDischargeDepth := 20}) (disch := first | omega | (simp only [lenE]; done) | (simp only [lenE]; omega) | rfl | (simp only [lenE, markR_len]; done) | (simp only [lenE, markR_len]; omega)) only [runE, mapE, listE, initT_5, initT_6, initT_7, initT_8, resV, oneV, binA, unA, reduceCtorEq, Nat.reduceEqDiff, Nat.reduceAdd, Nat.reduceLT, Nat.reduceLeDiff, Nat.reduceMul, Nat.reduceSub, ↓reduceIte, decide_true, decide_false, Bool.true_eq_false, Bool.false_eq_true, Bool.not_true, Bool.not_false, if_true, if_false, and_true, true_and, memE, celE, w64, Nat.zero_add, Nat.add_zero, Nat.mul_one, putL, and_self, ldn, t0, t1, t2, t3, t4, t6, t9, t10, tm, rn, hlt2', rf]
        refine callH_ac (ih (n - nx) (by omega) nx M es1 (by omega) hE1) ?_
        rintro r M2 ⟨es2, gw2, hE2, hpre2, A2, ln2, cp2, rfl, hrow2⟩
        rw [← hn] at hrow2 ⊢
        have gwt := gw.trans gw2
        have hne6 : m.length ≠ mid := by omega
        have hne9 : M1.length + 1 ≠ mid := by omega
        have b62 := gw2.blk b6 hne6
        have b92 := gw2.blk b9 hne9
        have hrow9 := hrow.keep fun id l ho => gw2.own hE1.g.mp ho
        have c0 := hE2.c0
        have c1 := hE2.c1
        have c2 := hE2.c2
        have c3 := hE2.c3
        have l2c := rdc_lt hE2.c0
        have h9l2 := (List.getElem?_eq_some_iff.1 b92).1
        have h6l2 := (List.getElem?_eq_some_iff.1 b62).1
        have hpre3 : ∀ x : Int, x ≤ first → lkE es2 x = lkE es x := fun x hx => (hpre2 x (by omega)).trans (hpre x hx)
        have hris := dp_rising (k := k) hnn
        have hdl := hris.len
        have ap := app_cons (x := (first : Int)) (id := M2.length + 1) (hrow2.ints.ext [⟨.own, 87, [.int .i64 (costL k n (dp k n nx)), .slice A2 ln2 cp2]⟩]) (by omega) (by simp)
        rw [Nat.add_comm 1, List.map_cons] at ap
        have hcl : spanF k first nx + costL k n (dp k n nx) = costL k n ((first : Int) :: dp k n nx) := by rw [costL_cons, dp_beg hnn]; simp
        have hri1 : Rising ((first : Int) :: dp k n nx) n := hris.cons (by omega) (by rw [dp_beg hnn]; omega)
        have cb0 := costL_in hg (ps := (first : Int) :: dp k n nx) (by rw [← hn]; exact hri1)
        rw [← hn] at cb0
        have hc3 := hE2.hc
        simp (config := {implicitDefEqProofs := false, maxDischargeDepth := 20}) (disch := first | omega | (simp only [lenE]; done) | (simp only [lenE]; omega) | rfl | (simp only [lenE, markR_len]; done) | (simp only [lenE, markR_len]; omega)) only [runE, mapE, listE, initT_5, initT_6, initT_7, initT_8, resV, oneV, binA, unA, reduceCtorEq, Nat.reduceEqDiff, Nat.reduceAdd, Nat.reduceLT, Nat.reduceLeDiff, Nat.reduceMul, Nat.reduceSub, ↓reduceIte, decide_true, decide_false, Bool.true_eq_false, Bool.false_eq_true, Bool.not_true, Bool.not_false, if_true, if_false, and_true, true_and, memE, celE, w64, Nat.zero_add, Nat.add_zero, Nat.mul_one, putL, and_self, ldn, t0, t1, t2, t3, t4, t6, t9, t10, bld2, stP_aggL, bsl_one, ap, c0, c1, c2, c3]
        obtain ⟨M3, hM3⟩ : ∃ M3, M3 = M2 ++ [⟨.own, 87, [.int .i64 (costL k n (dp k n nx)), .slice A2 ln2 cp2]⟩] ++ [deadB] ++ [⟨.own, 3, .int .i64 first :: (dp k n nx).map (Value.int .i64)⟩] := ⟨_, rfl⟩
        have L3 : M3.length = M2.length + 1 + 1 + 1 := by rw [hM3]; simp
        have hc3 : CaseA M3 (.agg #[v1, v2, v3, v4]) k := by rw [hM3]; exact ((hc3.ext _).ext _).ext _
        have facts : ∀ X : Mem, NoRo X → Gw mid m (M3 ++ X) ∧ MG k mid e es2 (M3 ++ X) ∧ (M3 ++ X)[m.length]? = some ⟨.own, 87, [.int .i64 0, .slice none 0 0]⟩ ∧
            (M3 ++ X)[M1.length + 1]? = some ⟨.own, 87, [.int .i64 (costL k n (dpLoop k n first (dp k n) (nx - 1 - first))), .slice A ln cp]⟩ ∧ RowV (M3 ++ X) (.slice A ln cp) (dpLoop k n first (dp k n) (nx - 1 - first)) ∧ OwnR (M3 ++ X) (M2.length + 1 + 1) ((first : Int) :: dp k n nx) := by
          intro X hX
          have hR : M3 ++ X = M2 ++ ([⟨.own, 87, [.int .i64 (costL k n (dp k n nx)), .slice A2 ln2 cp2]⟩] ++ [deadB] ++ [⟨.own, 3, .int .i64 first :: (dp k n nx).map (Value.int .i64)⟩] ++ X) := by rw [hM3]; simp
          refine ⟨?_, ?_, ?_, ?_, ?_, ?_⟩
          · rw [hM3]; exact (((gwt.one _ _).app (noRo_dead noRo_nil)).one _ _).app hX
          · rw [hR]; exact hE2.g.app _
          · rw [hR, List.getElem?_append_left h6l2]; exact b62
          · rw [hR, List.getElem?_append_left h9l2]; exact b92
          · rw [hR]; exact hrow9.keep fun id l ho => ho.ext _
          · rw [hM3]
            exact (OwnR.end' (l := (first : Int) :: dp k n nx) (by simp)).ext X
        rw [← hM3]
        have dls : dpLoop k n first (dp k n) (nx + 1 - 1 - first) = if bef (costL k n ((first : Int) :: dp k n nx), (first : Int) :: dp k n nx) (costL k n (dpLoop k n first (dp k n) (nx - 1 - first)), dpLoop k n first (dp k n) (nx - 1 - first)) = true then (first : Int) :: dp k n nx else dpLoop k n first (dp k n) (nx - 1 - first) := by
          rw [show nx + 1 - 1 - first = (nx - 1 - first) + 1 by omega, dpLoop, show first + 1 + (nx - 1 - first) = nx by omega]
        have done : ∀ (M6 : Mem) (X : Mem), NoRo X → M6 = M3 ++ X → ∀ b, bef (costL k n ((first : Int) :: dp k n nx), (first : Int) :: dp k n nx) (costL k n (dpLoop k n first (dp k n) (nx - 1 - first)), dpLoop k n first (dp k n) (nx - 1 - first)) = b →
            (b = false → Gw mid m M6 ∧ MG k mid e es2 M6 ∧ M6[m.length]? = some ⟨.own, 87, [.int .i64 0, .slice none 0 0]⟩ ∧ M6[M1.length + 1]? = some ⟨.own, 87, [.int .i64 (costL k n (dpLoop k n first (dp k n) (nx + 1 - 1 - first))), .slice A ln cp]⟩ ∧ RowV M6 (.slice A ln cp) (dpLoop k n first (dp k n) (nx + 1 - 1 - first))) ∧
            (b = true → ∀ M7, M7 = M6.set (M1.length + 1) ⟨.own, 87, [.int .i64 (costL k n ((first : Int) :: dp k n nx)), .slice (some ⟨M2.length + 1 + 1, 0, none⟩) ((dp k n nx).length + 1) 1]⟩ → Gw mid m M7 ∧ MG k mid e es2 M7 ∧ M7[m.length]? = some ⟨.own, 87, [.int .i64 0, .slice none 0 0]⟩ ∧ M7[M1.length + 1]? = some ⟨.own, 87, [.int .i64 (costL k n (dpLoop k n first (dp k n) (nx + 1 - 1 - first))), .slice (some ⟨M2.length + 1 + 1, 0, none⟩) ((dp k n nx).length + 1) 1]⟩ ∧ RowV M7 (.slice (some ⟨M2.length + 1 + 1, 0, none⟩) ((dp k n nx).length + 1) 1) (dpLoop k n first (dp k n) (nx + 1 - 1 - first))) := by
          intro M6 X hX h6 b hb
          obtain ⟨f1, f2, f3, f4, f5, f6⟩ := facts X hX
          rw [← h6] at f1 f2 f3 f4 f5 f6
          refine ⟨fun hbf => ?_, fun hbt M7 h7 => ?_⟩
          · rw [dls, hb, hbf, if_neg (by simp)]
            exact ⟨f1, f2, f3, f4, f5⟩
          · rw [dls, hb, hbt, if_pos rfl, h7]
            refine ⟨f1.set (.inl (by omega)) (by simp), f2.box f4 (by decide), ?_, ?_, .inr ⟨_, 1, rfl, ?_, by simp; omega⟩⟩
            · rw [List.getElem?_set_ne (by omega)]; exact f3
            · rw [List.getElem?_set_self (List.getElem?_eq_some_iff.1 f4).1]
            · refine f6.set_ne fun e2 => ?_
              have : M6[M2.length + 1 + 1]? = some (rowB ((first : Int) :: dp k n nx)) := f6
              rw [← e2, f4] at this
              cases this
        refine ⟨?_, ?_⟩
        · refine rcallH_rc (orderCost_rc _ _ k first nx hc3 hg hnx (by omega)) ?_
          rintro r new3 ⟨rfl, nr3⟩
          obtain ⟨f1, f2, f3, f4, f5, f6⟩ := facts new3 nr3
          have q0 := rd_own (k := 0) f4
          have q1 := rd_own (k := 1) f4
          have hl9 := (List.getElem?_eq_some_iff.1 f4).1
          obtain ⟨M4, hM4⟩ : ∃ M4, M4 = M3 ++ new3 := ⟨_, rfl⟩
          rw [← hM4] at f1 f2 f3 f4 f5 f6 q0 q1 hl9 ⊢
          simp (config := {implicitDefEqProofs := false, maxDischargeDepth := 20}) (disch := first | omega | (simp only [lenE]; done) | (simp only [lenE]; omega) | rfl | (simp only [lenE, markR_len]; done) | (simp only [lenE, markR_len]; omega)) only [runE, mapE, listE, initT_5, initT_6, initT_7, initT_8, resV, oneV, binA, unA, reduceCtorEq, Nat.reduceEqDiff, Nat.reduceAdd, Nat.reduceLT, Nat.reduceLeDiff, Nat.reduceMul, Nat.reduceSub, ↓reduceIte, decide_true, decide_false, Bool.true_eq_false, Bool.false_eq_true, Bool.not_true, Bool.not_false, if_true, if_false, and_true, true_and, memE, celE, w64, Nat.zero_add, Nat.add_zero, Nat.mul_one, putL, and_self, ldn, t0, t1, t2, t3, t4, t6, t9, t10, hcl, bld2, stP_aggL, q0, q1]
          obtain ⟨M5, hM5⟩ : ∃ M5, M5 = M4 ++ [⟨.own, 87, [.int .i64 (costL k n ((first : Int) :: dp k n nx)), .slice (some ⟨M2.length + 1 + 1, 0, none⟩) ((dp k n nx).length + 1) 1]⟩] := ⟨_, rfl⟩
          have hsh : ∃ X, NoRo X ∧ M5 = M3 ++ X := ⟨new3 ++ [⟨.own, 87, [.int .i64 (costL k n ((first : Int) :: dp k n nx)), .slice (some ⟨M2.length + 1 + 1, 0, none⟩) ((dp k n nx).length + 1) 1]⟩], noRo_app nr3 (noRo_own noRo_nil), by rw [hM5, hM4, List.append_assoc]⟩
          have L4 : M4.length = M3.length + new3.length := by rw [hM4]; simp
          obtain ⟨b13, hb13⟩ : ∃ b13, b13 = M4.length := ⟨_, rfl⟩
          have b13e : M5[b13]? = some ⟨.own, 87, [.int .i64 (costL k n ((first : Int) :: dp k n nx)), .slice (some ⟨M2.length + 1 + 1, 0, none⟩) ((dp k n nx).length + 1) 1]⟩ := by rw [hM5, hb13]; simp
          rw [← hM5, ← hb13]
          obtain ⟨p1, p2, p3, p4, p5, p6⟩ := (by obtain ⟨X, hX, h5⟩ := hsh; rw [h5]; exact facts X hX : Gw mid m M5 ∧ MG k mid e es2 M5 ∧ M5[m.length]? = some ⟨.own, 87, [.int .i64 0, .slice none 0 0]⟩ ∧
            M5[M1.length + 1]? = some ⟨.own, 87, [.int .i64 (costL k n (dpLoop k n first (dp k n) (nx - 1 - first))), .slice A ln cp]⟩ ∧ RowV M5 (.slice A ln cp) (dpLoop k n first (dp k n) (nx - 1 - first)) ∧ OwnR M5 (M2.length + 1 + 1) ((first : Int) :: dp k n nx))
          have iz : IntsA M5 (.slice (some ⟨M2.length + 1 + 1, 0, none⟩) ((dp k n nx).length + 1) 1) ((first : Int) :: dp k n nx) := p6.ints (by simp; omega) 1
          refine callH_rc (comesBefore_rc _ _ _ _ _ ((first : Int) :: dp k n nx) (dpLoop k n first (dp k n) (nx - 1 - first)) iz p5.ints) ?_
          rintro r new6 ⟨rfl, nr6⟩
          obtain ⟨M6, hM6⟩ : ∃ M6, M6 = M5 ++ new6 := ⟨_, rfl⟩
          have b136 : M6[b13]? = some ⟨.own, 87, [.int .i64 (costL k n ((first : Int) :: dp k n nx)), .slice (some ⟨M2.length + 1 + 1, 0, none⟩) ((dp k n nx).length + 1) 1]⟩ := by rw [hM6, List.getElem?_append_left (List.getElem?_eq_some_iff.1 b13e).1]; exact b13e
          have s0 := rd_own (k := 0) b136
          have s1 := rd_own (k := 1) b136
          rw [← hM6]
          have p46 : M6[M1.length + 1]? = some ⟨.own, 87, [.int .i64 (costL k n (dpLoop k n first (dp k n) (nx - 1 - first))), .slice A ln cp]⟩ := by rw [hM6, List.getElem?_append_left (List.getElem?_eq_some_iff.1 p4).1]; exact p4
          have w6 := st2_own p46 (costL k n ((first : Int) :: dp k n nx)) (some ⟨M2.length + 1 + 1, 0, none⟩) ((dp k n nx).length + 1) 1
          obtain ⟨M7, hM7⟩ : ∃ M7, M7 = M6.set (M1.length + 1) ⟨.own, 87, [.int .i64 (costL k n ((first : Int) :: dp k n nx)), .slice (some ⟨M2.length + 1 + 1, 0, none⟩) ((dp k n nx).length + 1) 1]⟩ := ⟨_, rfl⟩
          rw [← hM7] at w6
          obtain ⟨X, hX, hX5⟩ := hsh
          have dn := done M6 (X ++ new6) (noRo_app hX nr6) (by rw [hM6, hX5, List.append_assoc])
          cases hb : bef (costL k n ((first : Int) :: dp k n nx), (first : Int) :: dp k n nx) (costL k n (dpLoop k n first (dp k n) (nx - 1 - first)), dpLoop k n first (dp k n) (nx - 1 - first)) with
          | false =>
            obtain ⟨z1, z2, z3, z4, z5⟩ := (dn false hb).1 rfl
            simp (config := {implicitDefEqProofs := false, maxDischargeDepth := 20}) (disch := first | omega | (simp only [lenE]; done) | (simp only [lenE]; omega) | rfl | (simp only [lenE, markR_len]; done) | (simp only [lenE, markR_len]; omega)) only [runE, mapE, listE, initT_5, initT_6, initT_7, initT_8, resV, oneV, binA, unA, reduceCtorEq, Nat.reduceEqDiff, Nat.reduceAdd, Nat.reduceLT, Nat.reduceLeDiff, Nat.reduceMul, Nat.reduceSub, ↓reduceIte, decide_true, decide_false, Bool.true_eq_false, Bool.false_eq_true, Bool.not_true, Bool.not_false, if_true, if_false, and_true, true_and, memE, celE, w64, Nat.zero_add, Nat.add_zero, Nat.mul_one, putL, and_self, ldn, t0, t1, t2, t3, t4, t6, t9, t10]
            exact ⟨⟨nx + 1, M6, es2, A, ln, cp, by omega, by omega, by simp, rfl, z1, z2, hpre3, z3, z4, z5⟩, by simp [intOf]; omega⟩
          | true =>
            obtain ⟨z1, z2, z3, z4, z5⟩ := (dn true hb).2 rfl M7 hM7
            simp (config := {implicitDefEqProofs := false, maxDischargeDepth := 20}) (disch := first | omega | (simp only [lenE]; done) | (simp only [lenE]; omega) | rfl | (simp only [lenE, markR_len]; done) | (simp only [lenE, markR_len]; omega)) only [runE, mapE, listE, initT_5, initT_6, initT_7, initT_8, resV, oneV, binA, unA, reduceCtorEq, Nat.reduceEqDiff, Nat.reduceAdd, Nat.reduceLT, Nat.reduceLeDiff, Nat.reduceMul, Nat.reduceSub, ↓reduceIte, decide_true, decide_false, Bool.true_eq_false, Bool.false_eq_true, Bool.not_true, Bool.not_false, if_true, if_false, and_true, true_and, memE, celE, w64, Nat.zero_add, Nat.add_zero, Nat.mul_one, putL, and_self, ldn, t0, t1, t2, t3, t4, t6, t9, t10, s0, s1, stP_aggL, w6]
            exact ⟨⟨nx + 1, M7, es2, _, _, _, by omega, by omega, by simp, rfl, z1, z2, hpre3, z3, z4, z5⟩, by simp [intOf]; omega⟩
        · obtain ⟨f1, f2, f3, f4, f5, f6⟩ := facts [] noRo_nil
          rw [List.append_nil] at f1 f2 f3 f4 f5 f6
          obtain ⟨M4, hM4⟩ : ∃ M4, M4 = M3 ++ [⟨.own, 87, [.int .i64 0, .slice none 0 0]⟩] := ⟨_, rfl⟩
          have hc4 : CaseA M4 (.agg #[v1, v2, v3, v4]) k := by rw [hM4]; exact hc3.ext _
          rw [← hM4]
          refine rcallH_rc (orderCost_rc _ _ k first nx hc4 hg hnx (by omega)) ?_
          rintro r new3 ⟨rfl, nr3⟩
          have b130 : (M4 ++ new3)[M3.length]? = some ⟨.own, 87, [.int .i64 0, .slice none 0 0]⟩ := by rw [hM4, List.append_assoc]; simp
          have w3 := st2_own b130 (costL k n ((first : Int) :: dp k n nx)) (some ⟨M2.length + 1 + 1, 0, none⟩) ((dp k n nx).length + 1) 1
          obtain ⟨M5, hM5⟩ : ∃ M5, M5 = (M4 ++ new3).set M3.length ⟨.own, 87, [.int .i64 (costL k n ((first : Int) :: dp k n nx)), .slice (some ⟨M2.length + 1 + 1, 0, none⟩) ((dp k n nx).length + 1) 1]⟩ := ⟨_, rfl⟩
          rw [← hM5] at w3
          have hsh : ∃ X, NoRo X ∧ M5 = M3 ++ X := ⟨[⟨.own, 87, [.int .i64 (costL k n ((first : Int) :: dp k n nx)), .slice (some ⟨M2.length + 1 + 1, 0, none⟩) ((dp k n nx).length + 1) 1]⟩] ++ new3, noRo_app (noRo_own noRo_nil) nr3, by rw [hM5, hM4, List.append_assoc, List.set_append_right _ _ (Nat.le_refl _), Nat.sub_self]; rfl⟩
          obtain ⟨b13, hb13⟩ : ∃ b13, b13 = M3.length := ⟨_, rfl⟩
          have b13e : M5[b13]? = some ⟨.own, 87, [.int .i64 (costL k n ((first : Int) :: dp k n nx)), .slice (some ⟨M2.length + 1 + 1, 0, none⟩) ((dp k n nx).length + 1) 1]⟩ := by rw [hM5, hb13, List.getElem?_set_self (List.getElem?_eq_some_iff.1 b130).1]
          obtain ⟨p1, p2, p3, p4, p5, p6⟩ := (by obtain ⟨X, hX, h5⟩ := hsh; rw [h5]; exact facts X hX : Gw mid m M5 ∧ MG k mid e es2 M5 ∧ M5[m.length]? = some ⟨.own, 87, [.int .i64 0, .slice none 0 0]⟩ ∧
            M5[M1.length + 1]? = some ⟨.own, 87, [.int .i64 (costL k n (dpLoop k n first (dp k n) (nx - 1 - first))), .slice A ln cp]⟩ ∧ RowV M5 (.slice A ln cp) (dpLoop k n first (dp k n) (nx - 1 - first)) ∧ OwnR M5 (M2.length + 1 + 1) ((first : Int) :: dp k n nx))
          have q0 := rd_own (k := 0) p4
          have q1 := rd_own (k := 1) p4
          have q2 := rd_own (k := 0) b13e
          have q3 := rd_own (k := 1) b13e
          obtain ⟨M45, hM45⟩ : ∃ M45, M45 = M4 ++ new3 := ⟨_, rfl⟩
          rw [← hM45] at w3 ⊢
          have hb13' : b13 = M2.length + 1 + 1 + 1 := by rw [hb13, L3]
          rw [← hb13] at w3
          rw [← hb13']
          simp (config := {implicitDefEqProofs := false, maxDischargeDepth := 20}) (disch := first | omega | (simp only [lenE]; done) | (simp only [lenE]; omega) | rfl | (simp only [lenE, markR_len]; done) | (simp only [lenE, markR_len]; omega)) only [runE, mapE, listE, initT_5, initT_6, initT_7, initT_8, resV, oneV, binA, unA, reduceCtorEq, Nat.reduceEqDiff, Nat.reduceAdd, Nat.reduceLT, Nat.reduceLeDiff, Nat.reduceMul, Nat.reduceSub, ↓reduceIte, decide_true, decide_false, Bool.true_eq_false, Bool.false_eq_true, Bool.not_true, Bool.not_false, if_true, if_false, and_true, true_and, memE, celE, w64, Nat.zero_add, Nat.add_zero, Nat.mul_one, putL, and_self, ldn, t0, t1, t2, t3, t4, t6, t9, t10, hcl, bld2, stP_aggL, w3, q0, q1, q2, q3]
          have iz : IntsA M5 (.slice (some ⟨M2.length + 1 + 1, 0, none⟩) ((dp k n nx).length + 1) 1) ((first : Int) :: dp k n nx) := p6.ints (by simp; omega) 1
          refine callH_rc (comesBefore_rc _ _ _ _ _ ((first : Int) :: dp k n nx) (dpLoop k n first (dp k n) (nx - 1 - first)) iz p5.ints) ?_
          rintro r new6 ⟨rfl, nr6⟩
          obtain ⟨M6, hM6⟩ : ∃ M6, M6 = M5 ++ new6 := ⟨_, rfl⟩
          have b136 : M6[b13]? = some ⟨.own, 87, [.int .i64 (costL k n ((first : Int) :: dp k n nx)), .slice (some ⟨M2.length + 1 + 1, 0, none⟩) ((dp k n nx).length + 1) 1]⟩ := by rw [hM6, List.getElem?_append_left (List.getElem?_eq_some_iff.1 b13e).1]; exact b13e
          have s0 := rd_own (k := 0) b136
          have s1 := rd_own (k := 1) b136
          rw [← hM6]
          have p46 : M6[M1.length + 1]? = some ⟨.own, 87, [.int .i64 (costL k n (dpLoop k n first (dp k n) (nx - 1 - first))), .slice A ln cp]⟩ := by rw [hM6, List.getElem?_append_left (List.getElem?_eq_some_iff.1 p4).1]; exact p4
          have w6 := st2_own p46 (costL k n ((first : Int) :: dp k n nx)) (some ⟨M2.length + 1 + 1, 0, none⟩) ((dp k n nx).length + 1) 1
          obtain ⟨M7, hM7⟩ : ∃ M7, M7 = M6.set (M1.length + 1) ⟨.own, 87, [.int .i64 (costL k n ((first : Int) :: dp k n nx)), .slice (some ⟨M2.length + 1 + 1, 0, none⟩) ((dp k n nx).length + 1) 1]⟩ := ⟨_, rfl⟩
          rw [← hM7] at w6
          obtain ⟨X, hX, hX5⟩ := hsh
          have dn := done M6 (X ++ new6) (noRo_app hX nr6) (by rw [hM6, hX5, List.append_assoc])
          cases hb : bef (costL k n ((first : Int) :: dp k n nx), (first : Int) :: dp k n nx) (costL k n (dpLoop k n first (dp k n) (nx - 1 - first)), dpLoop k n first (dp k n) (nx - 1 - first)) with
          | false =>
            obtain ⟨z1, z2, z3, z4, z5⟩ := (dn false hb).1 rfl
            simp (config := {implicitDefEqProofs := false, maxDischargeDepth := 20}) (disch := first | omega | (simp only [lenE]; done) | (simp only [lenE]; omega) | rfl | (simp only [lenE, markR_len]; done) | (simp only [lenE, markR_len]; omega)) only [runE, mapE, listE, initT_5, initT_6, initT_7, initT_8, resV, oneV, binA, unA, reduceCtorEq, Nat.reduceEqDiff, Nat.reduceAdd, Nat.reduceLT, Nat.reduceLeDiff, Nat.reduceMul, Nat.reduceSub, ↓reduceIte, decide_true, decide_false, Bool.true_eq_false, Bool.false_eq_true, Bool.not_true, Bool.not_false, if_true, if_false, and_true, true_and, memE, celE, w64, Nat.zero_add, Nat.add_zero, Nat.mul_one, putL, and_self, ldn, t0, t1, t2, t3, t4, t6, t9, t10]
            exact ⟨⟨nx + 1, M6, es2, A, ln, cp, by omega, by omega, by simp, rfl, z1, z2, hpre3, z3, z4, z5⟩, by simp [intOf]; omega⟩
          | true =>
            obtain ⟨z1, z2, z3, z4, z5⟩ := (dn true hb).2 rfl M7 hM7
            simp (config := {implicitDefEqProofs := false, maxDischargeDepth := 20}) (disch := first | omega | (simp only [lenE]; done) | (simp only [lenE]; omega) | rfl | (simp only [lenE, markR_len]; done) | (simp only [lenE, markR_len]; omega)) only [runE, mapE, listE, initT_5, initT_6, initT_7, initT_8, resV, oneV, binA, unA, reduceCtorEq, Nat.reduceEqDiff, Nat.reduceAdd, Nat.reduceLT, Nat.reduceLeDiff, Nat.reduceMul, Nat.reduceSub, ↓reduceIte, decide_true, decide_false, Bool.true_eq_false, Bool.false_eq_true, Bool.not_true, Bool.not_false, if_true, if_false, and_true, true_and, memE, celE, w64, Nat.zero_add, Nat.add_zero, Nat.mul_one, putL, and_self, ldn, t0, t1, t2, t3, t4, t6, t9, t10, s0, s1, stP_aggL, w6]
            exact ⟨⟨nx + 1, M7, es2, _, _, _, by omega, by omega, by simp, rfl, z1, z2, hpre3, z3, z4, z5⟩, by simp [intOf]; omega⟩
      · have hlt2' : ¬ ((nx : Int) < n) := by omega
        have e0 : nx = n := by omega
        subst e0
        have hes : lkE es1 first = none := by rw [hpre _ (Int.le_refl _)]; exact hl
        have dl := dp_loop k hlt
        rw [← dl] at hrow b9
        obtain ⟨M8, hM8⟩ : ∃ M8, M8 = M.set mid ⟨.dead, e, .bool true :: (es1 ++ [.tuple #[.int .i64 first, .agg #[.int .i64 (costL k nx (dp k nx first)), .slice A ln cp]]])⟩ := ⟨_, rfl⟩
        have mu := mupA_mp mg.mp hes (.agg #[.int .i64 (costL k nx (dp k nx first)), .slice A ln cp])
        rw [← hM8] at mu
        have hne6 : mid ≠ m.length := by omega
        have hne9 : mid ≠ M1.length + 1 := by omega
        have r90 := rd_own (k := 0) b9
        have r91 := rd_own (k := 1) b9
        have b98 : M8[M1.length + 1]? = some ⟨.own, 87, [.int .i64 (costL k nx (dp k nx first)), .slice A ln cp]⟩ := by rw [hM8, List.getElem?_set_ne hne9]; exact b9
        have b68 : M8[m.length]? = some ⟨.own, 87, [.int .i64 0, .slice none 0 0]⟩ := by rw [hM8, List.getElem?_set_ne hne6]; exact b6
        have r80 := rd_own (k := 0) b98
        have r81 := rd_own (k := 1) b98
        have w8 := st2_own b68 (costL k nx (dp k nx first)) A ln cp
        obtain ⟨M9, hM9⟩ : ∃ M9, M9 = M8.set m.length ⟨.own, 87, [.int .i64 (costL k nx (dp k nx first)), .slice A ln cp]⟩ := ⟨_, rfl⟩
        rw [← hM9] at w8
        have b99 : M9[m.length]? = some ⟨.own, 87, [.int .i64 (costL k nx (dp k nx first)), .slice A ln cp]⟩ := by rw [hM9, List.getElem?_set_self (List.getElem?_eq_some_iff.1 b68).1]
        have s90 := rd_own (k := 0) b99
        have s91 := rd_own (k := 1) b99
        simp (config := {implicitDefEqProofs := false, maxDischargeDepth := 20}) (disch := first | omega | (simp only [lenE]; done) | (simp only [lenE]; omega) | rfl | (simp only [lenE, markR_len]; done) | (simp only [lenE, markR_len]; omega)) only [runE, mapE, listE, initT_5, initT_6, initT_7, initT_8, resV, oneV, binA, unA, reduceCtorEq, Nat.reduceEqDiff, Nat.reduceAdd, Nat.reduceLT, Nat.reduceLeDiff, Nat.reduceMul, Nat.reduceSub, ↓reduceIte, decide_true, decide_false, Bool.true_eq_false, Bool.false_eq_true, Bool.not_true, Bool.not_false, if_true, if_false, and_true, true_and, memE, celE, w64, Nat.zero_add, Nat.add_zero, Nat.mul_one, putL, and_self, ldn, t0, t1, t2, t3, t4, t6, t9, t10, tm, rn, hlt2', rk, r90, r91, mu, stP_aggL, r80, r81, w8, s90, s91]
        have hml : mid < M.length := (List.getElem?_eq_some_iff.1 mg.mp).1
        have keepO : ∀ id l, OwnR M id l → OwnR M9 id l := fun id l ho => by
          rw [hM9, hM8]
          refine (ho.set_ne fun e2 => ?_).set_ne fun e2 => ?_
          · subst e2
            have : M[mid]? = some (rowB l) := ho
            rw [mg.mp] at this
            cases this
          · subst e2
            have : M[m.length]? = some (rowB l) := ho
            rw [b6] at this
            cases this
        have gw9 : Gw mid m M9 := by rw [hM9, hM8]; exact (gw.set (.inr rfl) (by simp)).set (.inl (Nat.le_refl _)) (by simp)
        have mid9 : M9[mid]? = some ⟨.dead, e, .bool true :: (es1 ++ [.tuple #[.int .i64 first, .agg #[.int .i64 (costL k nx (dp k nx first)), .slice A ln cp]]])⟩ := by
          rw [hM9, List.getElem?_set_ne (Ne.symm hne6), hM8, List.getElem?_set_self hml]
        rw [← hn]
        refine ⟨_, gw9, hE.gw gw9 ⟨mid9, fun x v hv => ?_, ?_⟩, fun x hx => ?_, A, ln, cp, rfl, hrow.keep keepO⟩
        · rw [lkE_app] at hv
          cases hx : lkE es1 x with
          | some u =>
            rw [hx] at hv
            cases hv
            obtain ⟨j, h1, h2, h3⟩ := mg.ok x _ hx
            exact ⟨j, h1, h2, h3.keep keepO⟩
          | none =>
            rw [hx] at hv
            simp only [] at hv
            split at hv
            · rename_i hfx
              cases hv
              refine ⟨first, hfx.symm, by omega, ?_⟩
              rw [← hn]
              exact ⟨A, ln, cp, rfl, hrow.keep keepO⟩
            · cases hv
        · rw [lkE_app]
          have := mg.end_
          cases hx : lkE es1 k.need.length with
          | some u => rfl
          | none => rw [hx] at this; cases this
        · rw [lkE_app, hpre x (by omega)]
          cases lkE es x with
          | some u => rfl
          | none => rw [if_neg (by omega)]
end Go.Proofs.Ytncajinepljdhaa.Ab
end
section
namespace Go.Proofs.Ytncajinepljdhaa.Ab
open Go Go.RowKit
set_option linter.unusedVariables false
set_option linter.unusedSimpArgs false
def fromV (n : Nat) : Value := .func (.func 248) #[] #[.pointer (some ⟨n + 1 + 1 + 1, 0, none⟩), .pointer (some ⟨n, 0, none⟩), .pointer (some ⟨n + 1, 0, none⟩), .pointer (some ⟨n + 1 + 1 + 1 + 1, 0, none⟩)]
def fromM (t : TypeId) (k : Cs) (v1 v2 v3 v4 : Value) (n : Nat) (e1 e2 : TypeId) : Mem := [⟨.own, t, [v1, v2, v3, v4]⟩, ⟨.own, 3, [.int .i64 k.need.length]⟩, ⟨.dead, e1, [.bool true, .tuple #[.int .i64 k.need.length, .agg #[.int .i64 0, .slice none 0 0]]]⟩,
  ⟨.own, e1, [.map (some (n + 1 + 1))]⟩, ⟨.own, e2, [fromV n]⟩]
theorem lenv_new {M : Mem} {t e1 e2 : TypeId} {k : Cs} {v1 v2 v3 v4 : Value} (h : CaseA M (.agg #[v1, v2, v3, v4]) k) :
    LEnv k v1 v2 v3 v4 (M.length + 1 + 1 + 1) M.length (M.length + 1) (M.length + 1 + 1 + 1 + 1) (M.length + 1 + 1) e1 [.tuple #[.int .i64 k.need.length, .agg #[.int .i64 0, .slice none 0 0]]] (M ++ fromM t k v1 v2 v3 v4 M.length e1 e2) := by
  have at_ : ∀ i, (M ++ fromM t k v1 v2 v3 v4 M.length e1 e2)[M.length + i]? = (fromM t k v1 v2 v3 v4 M.length e1 e2)[i]? := fun i => by
    rw [List.getElem?_append_right (by omega), Nat.add_sub_cancel_left]
  have a0 := at_ 0
  rw [Nat.add_zero] at a0
  have a1 := at_ 1
  have a2 := at_ 2
  have a3 := at_ 3
  have a4 := at_ 4
  refine ⟨?_, ?_, ?_, ?_, ?_, h.ext _, ?_, ?_, ⟨?_, fun x v hv => ?_, ?_⟩⟩
  · unfold rdc; rw [show M.length + 1 + 1 + 1 = M.length + 3 from rfl, a3]; rfl
  · unfold rdc; rw [a0]; rfl
  · unfold rdc; rw [a0]; rfl
  · unfold rdc; rw [a0]; rfl
  · unfold rdc; rw [a0]; rfl
  · unfold rdc; rw [a1]; rfl
  · unfold rdc; rw [show M.length + 1 + 1 + 1 + 1 = M.length + 4 from rfl, a4]; rfl
  · rw [show M.length + 1 + 1 = M.length + 2 from rfl, a2]; rfl
  · simp only [lkE] at hv
    split at hv
    · rename_i hx
      cases hv
      refine ⟨k.need.length, hx.symm, Nat.le_refl _, none, 0, 0, ?_, ?_⟩
      · rw [dp_end k (Nat.le_refl _)]; rfl
      · rw [dp_end k (Nat.le_refl _)]; exact .inl ⟨rfl, rfl⟩
    · cases hv
  · simp [lkE]
theorem lotsFrom_rc (m : Mem) (v : Value) (k : Cs) (h : CaseA m v k) (hg : Good k) :
    RC Try.prog 226 [v] m fun r new => r = fromV m.length ∧ ∃ v1 v2 v3 v4 e1 e2, CaseA m (.agg #[v1, v2, v3, v4]) k ∧ new = fromM 26 k v1 v2 v3 v4 m.length e1 e2 := by
  refine rc_of_run mixed ok_impl_lotsFrom (by simp) (go_start _ _ _ ?_)
  obtain ⟨v1, v2, v3, v4, rfl, -, -, -, -⟩ := h.ok
  obtain ⟨w1, w2, w3, w4, he, h1, h2, h3, h4⟩ := h.ro.ok
  cases he
  have mu : ∀ {M : Mem} {e : TypeId} {x : Int} {v : Value} {id : Nat}, id = M.length → mupA (M ++ [⟨.dead, e, [.bool true]⟩]) (.map (some id)) (.int .i64 x) v = some (M ++ [⟨.dead, e, [.bool true, .tuple #[.int .i64 x, v]]⟩]) := fun {M e x v id} hid => by
    subst hid
    have := mupA_mp (M := M ++ [⟨.dead, e, [.bool true]⟩]) (mid := M.length) (e := e) (es := []) (by simp) (x := x) rfl v
    rw [this]; simp
  simp (config := {implicitDefEqProofs := false, maxDischargeDepth := 20}) (disch := first | omega | (simp only [lenE]; done) | (simp only [lenE]; omega) | rfl | (simp only [lenE, markR_len]; done) | (simp only [lenE, markR_len]; omega)) only [runE, mapE, listE, initT_5, initT_6, initT_7, initT_8, resV, oneV, binA, unA, reduceCtorEq, Nat.reduceEqDiff, Nat.reduceAdd, Nat.reduceLT, Nat.reduceLeDiff, Nat.reduceMul, Nat.reduceSub, ↓reduceIte, decide_true, decide_false, Bool.true_eq_false, Bool.false_eq_true, Bool.not_true, Bool.not_false, if_true, if_false, and_true, true_and, memE, celE, w64, Nat.zero_add, Nat.add_zero, Nat.mul_one, putL, and_self, ldn, c_impl_lotsFrom, r_impl_lotsFrom, h1.len, bld_nil, mu]
  refine ⟨fromM 26 k v1 v2 v3 v4 m.length 152 136, ?_, ?_, rfl, v1, v2, v3, v4, _, _, h, rfl⟩
  · simp only [List.append_assoc]; rfl
  · intro b hb
    simp only [fromM, List.mem_cons, List.not_mem_nil, or_false] at hb
    rcases hb with rfl | rfl | rfl | rfl | rfl <;> simp

theorem ext_gw {m M0 M : Mem} {mid : Nat} (h : Ext m M0) (hg : Gw mid M0 M) (hmid : m.length ≤ mid) : Ext m M := by
  obtain ⟨new, rfl, hn⟩ := h
  have hl := hg.len
  rw [List.length_append, roM_len] at hl
  refine ⟨M.drop m.length, ?_, fun b hb => ?_⟩
  · have : M.take m.length = roM m := by
      apply List.ext_getElem?
      intro i
      rw [List.getElem?_take]
      by_cases hi : i < m.length
      · rw [if_pos hi, hg.old i (by rw [List.length_append, roM_len]; omega) (by omega), List.getElem?_append_left (by rw [roM_len]; exact hi)]
      · rw [if_neg hi, List.getElem?_eq_none (by rw [roM_len]; omega)]
    rw [← this, List.take_append_drop]
  · obtain ⟨i, hi⟩ := List.mem_iff_getElem?.1 hb
    rw [List.getElem?_drop] at hi
    by_cases e : m.length + i = mid
    · rw [e] at hi; exact hg.at_ b hi
    · by_cases h2 : m.length + i < (roM m ++ new).length
      · rw [hg.old _ h2 e, List.getElem?_append_right (by rw [roM_len]; omega)] at hi
        exact hn b (List.mem_of_getElem? hi)
      · exact hg.new _ b (by omega) hi
def AnsP (m : Mem) (c : Int) (l : List Int) (r : Value) (new : Mem) : Prop := NoRo new ∧ ∃ A ln cp, r = .agg #[.int .i64 c, .slice A ln cp] ∧ ((A = none ∧ ln = 0 ∧ cp = 0 ∧ l = []) ∨
  ∃ id fl, A = some ⟨id, 0, none⟩ ∧ ln = l.length ∧ cp = fl ∧ m.length ≤ id ∧ OwnR (m ++ new) id l ∧ l.length ≤ 1048576)
theorem own_new {m new : Mem} {id : Nat} {l : List Int} (h : OwnR (roM m ++ new) id l) : m.length ≤ id ∧ OwnR (m ++ new) id l := by
  have hb : (roM m ++ new)[id]? = some (rowB l) := h
  by_cases hi : id < m.length
  · rw [List.getElem?_append_left (by rw [roM_len]; exact hi), roM, List.getElem?_map] at hb
    cases hm : m[id]? with
    | none => rw [hm] at hb; cases hb
    | some b =>
      rw [hm] at hb
      obtain ⟨kd, e, xs⟩ := b
      cases kd <;> simp [roB, rowB, deadB] at hb
  · refine ⟨by omega, ?_⟩
    show (m ++ new)[id]? = some (rowB l)
    rw [List.getElem?_append_right (by rw [roM_len]; omega), roM_len] at hb
    rw [List.getElem?_append_right (by omega)]
    exact hb
theorem ansP_of {m M : Mem} {c : Int} {l : List Int} {A : Option Addr} {ln cp : Nat} (h : Ext m M) (hr : RowV M (.slice A ln cp) l) : newQ m (AnsP m c l) (.agg #[.int .i64 c, .slice A ln cp]) M := by
  obtain ⟨new, rfl, hn⟩ := h
  refine ⟨new, rfl, hn, hn, A, ln, cp, rfl, ?_⟩
  rcases hr with ⟨h1, h2⟩ | ⟨id, fl, h1, h2, h3⟩
  · cases h1; exact .inl ⟨rfl, rfl, rfl, h2⟩
  · cases h1
    obtain ⟨h4, h5⟩ := own_new h2
    exact .inr ⟨id, _, rfl, rfl, rfl, h4, h5, h3⟩
theorem RowV.box {M : Mem} {v : Value} {l : List Int} (h : RowV M v l) {id : Nat} {t : TypeId} {cs : List Value} {b : Blk} (hb : M[id]? = some ⟨.own, t, cs⟩) (ht : t ≠ 3) : RowV (M.set id b) v l :=
  h.keep fun i l ho => ho.set_ne fun e2 => by
    subst e2
    have : M[id]? = some (rowB l) := ho
    rw [hb] at this
    cases this
    exact ht rfl
theorem bestLots_rc (m : Mem) (v : Value) (k : Cs) (h : CaseA m v k) (hg : Good k) : RC Try.prog 143 [v] m (AnsP m (bestCost k) (bestL k)) := by
  refine rc_of_run mixed ok_impl_bestLots (by simp) (go_start _ _ _ ?_)
  obtain ⟨v1, v2, v3, v4, rfl, h1, h2, h3, h4⟩ := h.ro.ok
  have hc : CaseA (roM m) (.agg #[v1, v2, v3, v4]) k := ⟨_, _, _, _, rfl, h1, h2, h3, h4⟩
  have h8 := hg.n8
  simp (config := {implicitDefEqProofs := false, maxDischargeDepth := 20}) (disch := first | omega | (simp only [lenE]; done) | (simp only [lenE]; omega) | rfl | (simp only [lenE, markR_len]; done) | (simp only [lenE, markR_len]; omega)) only [runE, mapE, listE, initT_5, initT_6, initT_7, initT_8, resV, oneV, binA, unA, reduceCtorEq, Nat.reduceEqDiff, Nat.reduceAdd, Nat.reduceLT, Nat.reduceLeDiff, Nat.reduceMul, Nat.reduceSub, ↓reduceIte, decide_true, decide_false, Bool.true_eq_false, Bool.false_eq_true, Bool.not_true, Bool.not_false, if_true, if_false, and_true, true_and, memE, celE, w64, Nat.zero_add, Nat.add_zero, Nat.mul_one, putL, and_self, ldn, c_impl_bestLots, r_impl_bestLots]
  obtain ⟨M0, hM0⟩ : ∃ M0, M0 = roM m ++ [⟨.own, 26, [v1, v2, v3, v4]⟩] ++ [⟨.own, 87, [.int .i64 0, .slice none 0 0]⟩] := ⟨_, rfl⟩
  have L0 : M0.length = m.length + 1 + 1 := by rw [hM0]; simp [roM_len]
  have hx0 : Grow (roM m ++ [⟨.own, 26, [v1, v2, v3, v4]⟩]) M0 := by rw [hM0]; exact (Grow.refl _).one _ _
  have x0 : Ext m M0 := hx0.ext
  have b2 : M0[m.length + 1]? = some ⟨.own, 87, [.int .i64 0, .slice none 0 0]⟩ := by rw [hM0, List.getElem?_append_right (by simp [roM_len])]; simp [roM_len]
  obtain ⟨q0, -, -, -, hlM⟩ := hx0.box4
  rw [← hM0]
  refine callH_rc (lotsFrom_rc _ _ k (hx0.caseV hc) hg) ?_
  rintro r new ⟨rfl, w1, w2, w3, w4, e1, e2, hcw, rfl⟩
  have hE := lenv_new (t := 26) (e1 := e1) (e2 := e2) hcw
  obtain ⟨N, hN⟩ : ∃ N, N = M0.length := ⟨_, rfl⟩
  have nrF : NoRo (fromM 26 k w1 w2 w3 w4 M0.length e1 e2) := by
    intro b hb
    simp only [fromM, List.mem_cons, List.not_mem_nil, or_false] at hb
    rcases hb with rfl | rfl | rfl | rfl | rfl <;> simp
  obtain ⟨M1, hM1⟩ : ∃ M1, M1 = M0 ++ fromM 26 k w1 w2 w3 w4 M0.length e1 e2 := ⟨_, rfl⟩
  have x1 : Ext m M1 := by rw [hM1]; exact x0.app nrF
  have b21 : M1[m.length + 1]? = some ⟨.own, 87, [.int .i64 0, .slice none 0 0]⟩ := by rw [hM1, List.getElem?_append_left (by omega)]; exact b2
  have q01 : rdc M1 m.length 0 = some v1 := by rw [hM1]; exact rdc_ext q0
  have i11 : IntsA M1 v1 k.need := by rw [hM1]; exact (hx0.intsV h1).ext _
  rw [← hM1] at hE ⊢
  rw [← hN] at hE ⊢
  have hfr : fromV N = .func (.func 248) #[] #[.pointer (some ⟨N + 1 + 1 + 1, 0, none⟩), .pointer (some ⟨N, 0, none⟩), .pointer (some ⟨N + 1, 0, none⟩), .pointer (some ⟨N + 1 + 1 + 1 + 1, 0, none⟩)] := rfl
  have d1 := hE.g.mp
  have g1 : Gw (N + 1 + 1) M1 M1 := Gw.refl fun b hb => by rw [d1] at hb; cases hb; simp
  simp (config := {implicitDefEqProofs := false, maxDischargeDepth := 20}) (disch := first | omega | (simp only [lenE]; done) | (simp only [lenE]; omega) | rfl | (simp only [lenE, markR_len]; done) | (simp only [lenE, markR_len]; omega)) only [runE, mapE, listE, initT_5, initT_6, initT_7, initT_8, resV, oneV, binA, unA, reduceCtorEq, Nat.reduceEqDiff, Nat.reduceAdd, Nat.reduceLT, Nat.reduceLeDiff, Nat.reduceMul, Nat.reduceSub, ↓reduceIte, decide_true, decide_false, Bool.true_eq_false, Bool.false_eq_true, Bool.not_true, Bool.not_false, if_true, if_false, and_true, true_and, memE, celE, w64, Nat.zero_add, Nat.add_zero, Nat.mul_one, putL, and_self, ldn, hfr]
  refine callH_ac (from_ac k hg w1 w2 w3 w4 (N + 1 + 1 + 1) N (N + 1) (N + 1 + 1 + 1 + 1) (N + 1 + 1) e1 k.need.length 0 M1 _ (by omega) hE) ?_
  rintro r M2 ⟨es2, gw2, hE2, hpre2, A2, ln2, cp2, rfl, hrow2⟩
  obtain ⟨n, hn⟩ : ∃ n, n = k.need.length := ⟨_, rfl⟩
  rw [← hn] at hrow2 h8 ⊢
  simp (config := {implicitDefEqProofs := false, maxDischargeDepth := 20}) (disch := first | omega | (simp only [lenE]; done) | (simp only [lenE]; omega) | rfl | (simp only [lenE, markR_len]; done) | (simp only [lenE, markR_len]; omega)) only [runE, mapE, listE, initT_5, initT_6, initT_7, initT_8, resV, oneV, binA, unA, reduceCtorEq, Nat.reduceEqDiff, Nat.reduceAdd, Nat.reduceLT, Nat.reduceLeDiff, Nat.reduceMul, Nat.reduceSub, ↓reduceIte, decide_true, decide_false, Bool.true_eq_false, Bool.false_eq_true, Bool.not_true, Bool.not_false, if_true, if_false, and_true, true_and, memE, celE, w64, Nat.zero_add, Nat.add_zero, Nat.mul_one, putL, and_self, ldn, stP_aggL]
  have l12 := gw2.len
  have L1 : M1.length = N + 1 + 1 + 1 + 1 + 1 := by rw [hM1, List.length_append, ← hN]; rfl
  rw [L0] at hN
  have g22 := gw2.one 87 [.int .i64 (costL k n (dp k n 0)), .slice A2 ln2 cp2]
  have mg22 := hE2.g.app [⟨.own, 87, [.int .i64 (costL k n (dp k n 0)), .slice A2 ln2 cp2]⟩]
  have hrow22 : RowV (M2 ++ [⟨.own, 87, [.int .i64 (costL k n (dp k n 0)), .slice A2 ln2 cp2]⟩]) (.slice A2 ln2 cp2) (dp k n 0) := hrow2.keep fun id l ho => ho.ext _
  refine loop_inv mixed (fun s => ∃ (t : Nat) (M : Mem) (es : List Value) (A : Option Addr) (ln cp : Nat), t ≤ n ∧ (∀ j, j < t → k.need.getD j 0 = 0) ∧ s.t 1 = .pointer (some ⟨m.length, 0, none⟩) ∧ s.t 2 = .pointer (some ⟨m.length + 1, 0, none⟩) ∧
      s.t 3 = .func (.func 248) #[] #[.pointer (some ⟨N + 1 + 1 + 1, 0, none⟩), .pointer (some ⟨N, 0, none⟩), .pointer (some ⟨N + 1, 0, none⟩), .pointer (some ⟨N + 1 + 1 + 1 + 1, 0, none⟩)] ∧ s.t 4 = .pointer (some ⟨M2.length, 0, none⟩) ∧ s.t 5 = .int .i64 t ∧ s.m = M ∧
      Gw (N + 1 + 1) M1 M ∧ MG k (N + 1 + 1) e1 es M ∧ M[M2.length]? = some ⟨.own, 87, [.int .i64 (costL k n (blF k n t)), .slice A ln cp]⟩ ∧ RowV M (.slice A ln cp) (blF k n t)) (fun s => n - (intOf (s.t 5)).toNat)
    ⟨0, _, es2, A2, ln2, cp2, by omega, fun j hj => absurd hj (by omega), rfl, rfl, rfl, rfl, rfl, rfl, g22, mg22, by simp only [put_t, put_t', put_m, putT_t, putT_t', putT_m, init_t, init_m, initT_0, initT_1, initT_2, initT_3, initT_4, initT_5, initT_6, initT_7, initT_8, Nat.reduceEqDiff, ↓reduceIte]; rw [blF]; simp, by simp only [put_t, put_t', put_m, putT_t, putT_t', putT_m, init_t, init_m, initT_0, initT_1, initT_2, initT_3, initT_4, initT_5, initT_6, initT_7, initT_8, Nat.reduceEqDiff, ↓reduceIte]; rw [blF]; exact hrow22⟩ ?_
  rintro s ⟨t, M, es, A, ln, cp, htn, hz, t1, t2, t3, t4, t5, tm, gw, mg, b4, hrow⟩
  have hE1 := hE.gw gw mg
  have q0 := gw.rd d1 q01
  have i1 := gw.ints d1 i11
  have il := i1.len
  rw [← hn] at il
  have b2M := gw.blk b21 (by omega)
  have r40 := rd_own (k := 0) b4
  have r41 := rd_own (k := 1) b4
  have fin : ∀ (T : Nat), T = t → (T = n ∨ (T < n ∧ k.need.getD T 0 ≠ 0)) → ∀ M9, M9 = M.set (m.length + 1) ⟨.own, 87, [.int .i64 (costL k n (blF k n t)), .slice A ln cp]⟩ → newQ m (AnsP m (bestCost k) (bestL k)) (.agg #[.int .i64 (costL k n (blF k n t)), .slice A ln cp]) M9 := by
    intro T hT hTn M9 h9
    subst hT
    have hb := bestL_dp hg (T := T) (by omega) hz (by rw [← hn]; exact hTn)
    rw [hb.1, hb.2, ← hn]
    refine ansP_of ?_ ?_
    · rw [h9]; exact (ext_gw x1 gw (by omega)).put (by omega) _ _
    · rw [h9]; exact hrow.box b2M (by decide)
  have wr := st2_own b2M (costL k n (blF k n t)) A ln cp
  obtain ⟨M9, hM9⟩ : ∃ M9, M9 = M.set (m.length + 1) ⟨.own, 87, [.int .i64 (costL k n (blF k n t)), .slice A ln cp]⟩ := ⟨_, rfl⟩
  rw [← hM9] at wr
  have b99 : M9[m.length + 1]? = some ⟨.own, 87, [.int .i64 (costL k n (blF k n t)), .slice A ln cp]⟩ := by rw [hM9, List.getElem?_set_self (List.getElem?_eq_some_iff.1 b2M).1]
  have s90 := rd_own (k := 0) b99
  have s91 := rd_own (k := 1) b99
  by_cases hlt : t < n
  · have hlt' : (t : Int) < n := by omega
    have ai := i1.at_ t (by omega)
    have li := i1.ld t (by omega)
    by_cases hzt : k.need.getD t 0 = 0
    · have hzt' : (k.need.getD t 0 == 0) = true := by rw [hzt]; rfl
      obtain ⟨t', ht'⟩ : ∃ t', t' = t + 1 := ⟨_, rfl⟩
      have et : (t : Int) + 1 = (t' : Int) := by omega
      simp (config := {implicitDefEqProofs := false, maxDischargeDepth := 20}) (disch := first | omega | (simp only [lenE]; done) | (simp only [lenE]; omega) | rfl | (simp only [lenE, markR_len]; done) | (simp only [lenE, markR_len]; omega)) only [runE, mapE, listE, initT_5, initT_6, initT_7, initT_8, resV, oneV, binA, unA, reduceCtorEq, Nat.reduceEqDiff, Nat.reduceAdd, Nat.reduceLT, Nat.reduceLeDiff, Nat.reduceMul, Nat.reduceSub, ↓reduceIte, decide_true, decide_false, Bool.true_eq_false, Bool.false_eq_true, Bool.not_true, Bool.not_false, if_true, if_false, and_true, true_and, memE, celE, w64, Nat.zero_add, Nat.add_zero, Nat.mul_one, putL, and_self, ldn, t1, t2, t3, t4, t5, tm, q0, il, hlt', ai, li, hzt', et]
      refine callH_ac (from_ac k hg w1 w2 w3 w4 (N + 1 + 1 + 1) N (N + 1) (N + 1 + 1 + 1 + 1) (N + 1 + 1) e1 (n - t') t' M es (by omega) hE1) ?_
      rintro r M3 ⟨es3, gw3, hE3, hpre3, A3, ln3, cp3, rfl, hrow3⟩
      rw [← hn] at hrow3 ⊢
      have hgw := gw.trans gw3
      have b43 := gw3.blk b4 (by omega)
      have hl43 := (List.getElem?_eq_some_iff.1 b43).1
      have r430 := rd_own (k := 0) b43
      have r431 := rd_own (k := 1) b43
      have hrow43 := hrow.keep fun id l ho => gw3.own hE1.g.mp ho
      simp (config := {implicitDefEqProofs := false, maxDischargeDepth := 20}) (disch := first | omega | (simp only [lenE]; done) | (simp only [lenE]; omega) | rfl | (simp only [lenE, markR_len]; done) | (simp only [lenE, markR_len]; omega)) only [runE, mapE, listE, initT_5, initT_6, initT_7, initT_8, resV, oneV, binA, unA, reduceCtorEq, Nat.reduceEqDiff, Nat.reduceAdd, Nat.reduceLT, Nat.reduceLeDiff, Nat.reduceMul, Nat.reduceSub, ↓reduceIte, decide_true, decide_false, Bool.true_eq_false, Bool.false_eq_true, Bool.not_true, Bool.not_false, if_true, if_false, and_true, true_and, memE, celE, w64, Nat.zero_add, Nat.add_zero, Nat.mul_one, putL, and_self, ldn, t1, t2, t3, t4, t5, stP_aggL, r430, r431]
      refine callH_rc (comesBefore_rc _ _ _ _ _ (dp k n t') (blF k n t) (hrow3.ints.ext _) (hrow43.ints.ext _)) ?_
      rintro r new6 ⟨rfl, nr6⟩
      obtain ⟨M6, hM6⟩ : ∃ M6, M6 = M3 ++ [⟨.own, 87, [.int .i64 (costL k n (dp k n t')), .slice A3 ln3 cp3]⟩] ++ new6 := ⟨_, rfl⟩
      have g6 : Gw (N + 1 + 1) M1 M6 := by rw [hM6]; exact (hgw.one _ _).app nr6
      have mg6 : MG k (N + 1 + 1) e1 es3 M6 := by rw [hM6]; exact (hE3.g.app _).app _
      have b46 : M6[M2.length]? = some ⟨.own, 87, [.int .i64 (costL k n (blF k n t)), .slice A ln cp]⟩ := by
        rw [hM6, List.append_assoc, List.getElem?_append_left hl43]; exact b43
      have b66 : M6[M3.length]? = some ⟨.own, 87, [.int .i64 (costL k n (dp k n t')), .slice A3 ln3 cp3]⟩ := by rw [hM6, List.append_assoc]; simp
      have hrow6 : RowV M6 (.slice A ln cp) (blF k n t) := by rw [hM6]; exact hrow43.keep fun id l ho => (ho.ext _).ext _
      have hrow36 : RowV M6 (.slice A3 ln3 cp3) (dp k n t') := by rw [hM6]; exact hrow3.keep fun id l ho => (ho.ext _).ext _
      have r60 := rd_own (k := 0) b66
      have r61 := rd_own (k := 1) b66
      have w6 := st2_own b46 (costL k n (dp k n t')) A3 ln3 cp3
      have hbl : blF k n t' = if bef (costL k n (dp k n t'), dp k n t') (costL k n (blF k n t), blF k n t) = true then dp k n t' else blF k n t := by rw [ht', blF]
      have hz' : ∀ j, j < t' → k.need.getD j 0 = 0 := fun j hj => by
        by_cases e : j = t
        · rw [e]; exact hzt
        · exact hz j (by omega)
      rw [← hM6]
      cases hb : bef (costL k n (dp k n t'), dp k n t') (costL k n (blF k n t), blF k n t) with
      | false =>
        rw [hb, if_neg (by simp)] at hbl
        simp (config := {implicitDefEqProofs := false, maxDischargeDepth := 20}) (disch := first | omega | (simp only [lenE]; done) | (simp only [lenE]; omega) | rfl | (simp only [lenE, markR_len]; done) | (simp only [lenE, markR_len]; omega)) only [runE, mapE, listE, initT_5, initT_6, initT_7, initT_8, resV, oneV, binA, unA, reduceCtorEq, Nat.reduceEqDiff, Nat.reduceAdd, Nat.reduceLT, Nat.reduceLeDiff, Nat.reduceMul, Nat.reduceSub, ↓reduceIte, decide_true, decide_false, Bool.true_eq_false, Bool.false_eq_true, Bool.not_true, Bool.not_false, if_true, if_false, and_true, true_and, memE, celE, w64, Nat.zero_add, Nat.add_zero, Nat.mul_one, putL, and_self, ldn, t1, t2, t3, t4, t5, et]
        exact ⟨⟨t', M6, es3, A, ln, cp, by omega, hz', by simp, rfl, g6, mg6, by rw [hbl]; exact b46, by rw [hbl]; exact hrow6⟩, by simp [intOf]; omega⟩
      | true =>
        rw [hb, if_pos rfl] at hbl
        simp (config := {implicitDefEqProofs := false, maxDischargeDepth := 20}) (disch := first | omega | (simp only [lenE]; done) | (simp only [lenE]; omega) | rfl | (simp only [lenE, markR_len]; done) | (simp only [lenE, markR_len]; omega)) only [runE, mapE, listE, initT_5, initT_6, initT_7, initT_8, resV, oneV, binA, unA, reduceCtorEq, Nat.reduceEqDiff, Nat.reduceAdd, Nat.reduceLT, Nat.reduceLeDiff, Nat.reduceMul, Nat.reduceSub, ↓reduceIte, decide_true, decide_false, Bool.true_eq_false, Bool.false_eq_true, Bool.not_true, Bool.not_false, if_true, if_false, and_true, true_and, memE, celE, w64, Nat.zero_add, Nat.add_zero, Nat.mul_one, putL, and_self, ldn, t1, t2, t3, t4, t5, et, r60, r61, stP_aggL, w6]
        refine ⟨⟨t', _, es3, A3, ln3, cp3, by omega, hz', by simp, rfl, g6.set (.inl (by omega)) (by simp), mg6.box b46 (by decide), ?_, by rw [hbl]; exact hrow36.box b46 (by decide)⟩, by simp [intOf]; omega⟩
        rw [hbl, List.getElem?_set_self (List.getElem?_eq_some_iff.1 b46).1]
    · have hzt' : (k.need.getD t 0 == 0) = false := by simpa using hzt
      simp (config := {implicitDefEqProofs := false, maxDischargeDepth := 20}) (disch := first | omega | (simp only [lenE]; done) | (simp only [lenE]; omega) | rfl | (simp only [lenE, markR_len]; done) | (simp only [lenE, markR_len]; omega)) only [runE, mapE, listE, initT_5, initT_6, initT_7, initT_8, resV, oneV, binA, unA, reduceCtorEq, Nat.reduceEqDiff, Nat.reduceAdd, Nat.reduceLT, Nat.reduceLeDiff, Nat.reduceMul, Nat.reduceSub, ↓reduceIte, decide_true, decide_false, Bool.true_eq_false, Bool.false_eq_true, Bool.not_true, Bool.not_false, if_true, if_false, and_true, true_and, memE, celE, w64, Nat.zero_add, Nat.add_zero, Nat.mul_one, putL, and_self, ldn, t1, t2, t3, t4, t5, tm, q0, il, hlt', ai, li, hzt', r40, r41, stP_aggL, wr, s90, s91]
      exact fin t rfl (.inr ⟨hlt, hzt⟩) M9 hM9
  · have hlt' : ¬ ((t : Int) < n) := by omega
    simp (config := {implicitDefEqProofs := false, maxDischargeDepth := 20}) (disch := first | omega | (simp only [lenE]; done) | (simp only [lenE]; omega) | rfl | (simp only [lenE, markR_len]; done) | (simp only [lenE, markR_len]; omega)) only [runE, mapE, listE, initT_5, initT_6, initT_7, initT_8, resV, oneV, binA, unA, reduceCtorEq, Nat.reduceEqDiff, Nat.reduceAdd, Nat.reduceLT, Nat.reduceLeDiff, Nat.reduceMul, Nat.reduceSub, ↓reduceIte, decide_true, decide_false, Bool.true_eq_false, Bool.false_eq_true, Bool.not_true, Bool.not_false, if_true, if_false, and_true, true_and, memE, celE, w64, Nat.zero_add, Nat.add_zero, Nat.mul_one, putL, and_self, ldn, t1, t2, t3, t4, t5, tm, q0, il, hlt', r40, r41, stP_aggL, wr, s90, s91, goG_undef]
    exact fin t rfl (.inl (by omega)) M9 hM9

theorem implBestCost_rc (m : Mem) (v : Value) (k : Cs) (h : CaseA m v k) : RC Try.prog 29 [v] m (AnsV (.tuple #[.int .i64 (bestCA k), .bool k.good])) := by
  refine rc_of_run mixed ok_impl_BestCost (by simp) (go_start _ _ _ ?_)
  obtain ⟨v1, v2, v3, v4, rfl, h1, h2, h3, h4⟩ := h.ro.ok
  have hc : CaseA (roM m) (.agg #[v1, v2, v3, v4]) k := ⟨_, _, _, _, rfl, h1, h2, h3, h4⟩
  simp (config := {implicitDefEqProofs := false, maxDischargeDepth := 20}) (disch := first | omega | (simp only [lenE]; done) | (simp only [lenE]; omega) | rfl | (simp only [lenE, markR_len]; done) | (simp only [lenE, markR_len]; omega)) only [runE, mapE, listE, initT_5, initT_6, initT_7, initT_8, resV, oneV, binA, unA, reduceCtorEq, Nat.reduceEqDiff, Nat.reduceAdd, Nat.reduceLT, Nat.reduceLeDiff, Nat.reduceMul, Nat.reduceSub, ↓reduceIte, decide_true, decide_false, Bool.true_eq_false, Bool.false_eq_true, Bool.not_true, Bool.not_false, if_true, if_false, and_true, true_and, memE, celE, w64, Nat.zero_add, Nat.add_zero, Nat.mul_one, putL, and_self, ldn, c_impl_BestCost, r_impl_BestCost]
  refine callH_rc (implIsCase_rc _ _ k (hc.ext _)) ?_
  rintro r new ⟨rfl, nr1⟩
  have hx : Grow (roM m ++ [⟨.own, 26, [v1, v2, v3, v4]⟩]) (roM m ++ [⟨.own, 26, [v1, v2, v3, v4]⟩] ++ new) := (Grow.refl _).app nr1
  cases hg : k.good with
  | false =>
    simp (config := {implicitDefEqProofs := false, maxDischargeDepth := 20}) (disch := first | omega | (simp only [lenE]; done) | (simp only [lenE]; omega) | rfl | (simp only [lenE, markR_len]; done) | (simp only [lenE, markR_len]; omega)) only [runE, mapE, listE, initT_5, initT_6, initT_7, initT_8, resV, oneV, binA, unA, reduceCtorEq, Nat.reduceEqDiff, Nat.reduceAdd, Nat.reduceLT, Nat.reduceLeDiff, Nat.reduceMul, Nat.reduceSub, ↓reduceIte, decide_true, decide_false, Bool.true_eq_false, Bool.false_eq_true, Bool.not_true, Bool.not_false, if_true, if_false, and_true, true_and, memE, celE, w64, Nat.zero_add, Nat.add_zero, Nat.mul_one, putL, and_self, ldn]
    rw [bestCA_no hg]
    exact ext_ansV hx.ext rfl
  | true =>
    have gd := good_iff.1 hg
    rw [bestCA_yes hg]
    simp (config := {implicitDefEqProofs := false, maxDischargeDepth := 20}) (disch := first | omega | (simp only [lenE]; done) | (simp only [lenE]; omega) | rfl | (simp only [lenE, markR_len]; done) | (simp only [lenE, markR_len]; omega)) only [runE, mapE, listE, initT_5, initT_6, initT_7, initT_8, resV, oneV, binA, unA, reduceCtorEq, Nat.reduceEqDiff, Nat.reduceAdd, Nat.reduceLT, Nat.reduceLeDiff, Nat.reduceMul, Nat.reduceSub, ↓reduceIte, decide_true, decide_false, Bool.true_eq_false, Bool.false_eq_true, Bool.not_true, Bool.not_false, if_true, if_false, and_true, true_and, memE, celE, w64, Nat.zero_add, Nat.add_zero, Nat.mul_one, putL, and_self, ldn]
    refine callH_rc (bestLots_rc _ _ k (hx.caseV hc) gd) ?_
    rintro r new2 ⟨nr2, A, ln, cp, rfl, -⟩
    have f0 : fldA 0 none (.agg #[.int .i64 (bestCost k), .slice A ln cp]) = some (.int .i64 (bestCost k)) := rfl
    simp (config := {implicitDefEqProofs := false, maxDischargeDepth := 20}) (disch := first | omega | (simp only [lenE]; done) | (simp only [lenE]; omega) | rfl | (simp only [lenE, markR_len]; done) | (simp only [lenE, markR_len]; omega)) only [runE, mapE, listE, initT_5, initT_6, initT_7, initT_8, resV, oneV, binA, unA, reduceCtorEq, Nat.reduceEqDiff, Nat.reduceAdd, Nat.reduceLT, Nat.reduceLeDiff, Nat.reduceMul, Nat.reduceSub, ↓reduceIte, decide_true, decide_false, Bool.true_eq_false, Bool.false_eq_true, Bool.not_true, Bool.not_false, if_true, if_false, and_true, true_and, memE, celE, w64, Nat.zero_add, Nat.add_zero, Nat.mul_one, putL, and_self, ldn, f0]
    exact ext_ansV (hx.app nr2).ext rfl
end Go.Proofs.Ytncajinepljdhaa.Ab
end
section
namespace Go.Proofs.Ytncajinepljdhaa.Ab
open Go Go.RowKit
set_option linter.unusedVariables false
set_option linter.unusedSimpArgs false
def AnsT (m : Mem) (l1 l2 : List Int) (r : Value) (new : Mem) : Prop :=
  NoRo new ∧ ∃ i1 i2 f1 f2, r = .tuple #[.slice (some ⟨m.length + i1, 0, none⟩) l1.length f1, .slice (some ⟨m.length + i2, 0, none⟩) l2.length f2] ∧ new[i1]? = some (rowB l1) ∧ new[i2]? = some (rowB l2)
theorem AnsT.rows {m new : Mem} {l1 l2 : List Int} {r : Value} (h : AnsT m l1 l2 r new) :
    ∃ d1 d2 f1 f2, r = .tuple #[.slice (some ⟨d1, 0, none⟩) l1.length f1, .slice (some ⟨d2, 0, none⟩) l2.length f2] ∧ m.length ≤ d1 ∧ m.length ≤ d2 ∧ OwnR (m ++ new) d1 l1 ∧ OwnR (m ++ new) d2 l2 ∧ NoRo new := by
  obtain ⟨h1, i1, i2, f1, f2, rfl, h3, h4⟩ := h
  exact ⟨_, _, f1, f2, rfl, by omega, by omega, OwnR.new h3 rfl, OwnR.new h4 rfl, h1⟩
theorem ext_ansT {m M : Mem} {l1 l2 : List Int} {d1 d2 n1 n2 f1 f2 : Nat} (h : Ext m M) (o1 : OwnR M d1 l1) (o2 : OwnR M d2 l2) (h1 : m.length ≤ d1) (h2 : m.length ≤ d2) (e1 : n1 = l1.length) (e2 : n2 = l2.length) :
    newQ m (AnsT m l1 l2) (.tuple #[.slice (some ⟨d1, 0, none⟩) n1 f1, .slice (some ⟨d2, 0, none⟩) n2 f2]) M := by
  subst e1 e2
  obtain ⟨n0, rfl, h0⟩ := h
  unfold OwnR at o1 o2
  rw [List.getElem?_append_right (by rw [roM_len]; assumption), roM_len] at o1 o2
  exact ⟨n0, rfl, h0, h0, d1 - m.length, d2 - m.length, f1, f2, by rw [Nat.add_sub_cancel' h1, Nat.add_sub_cancel' h2], o1, o2⟩

theorem l3Forward_rc (m : Mem) (v : Value) (k : Cs) (h : CaseA m v k) (hg : Good k) :
    RC Try.prog 130 [v] m (AnsT m (fwdC k k.need.length) (fwdL k k.need.length)) := by
  refine rc_of_run mixed ok_spec_l3Forward (by simp) (go_start _ _ _ ?_)
  obtain ⟨v1, v2, v3, v4, rfl, h1, h2, h3, h4⟩ := h.ro.ok
  have hc : CaseA (roM m) (.agg #[v1, v2, v3, v4]) k := ⟨_, _, _, _, rfl, h1, h2, h3, h4⟩
  have h8 := hg.n8
  simp (config := {implicitDefEqProofs := false, maxDischargeDepth := 20}) (disch := first | omega | (simp only [lenE]; done) | (simp only [lenE]; omega) | rfl | (simp only [lenE, markR_len]; done) | (simp only [lenE, markR_len]; omega)) only [runE, mapE, listE, initT_5, initT_6, initT_7, initT_8, resV, oneV, binA, unA, reduceCtorEq, Nat.reduceEqDiff, Nat.reduceAdd, Nat.reduceLT, Nat.reduceLeDiff, Nat.reduceMul, Nat.reduceSub, ↓reduceIte, decide_true, decide_false, Bool.true_eq_false, Bool.false_eq_true, Bool.not_true, Bool.not_false, if_true, if_false, and_true, true_and, memE, celE, w64, Nat.zero_add, Nat.add_zero, Nat.mul_one, putL, and_self, ldn, c_spec_l3Forward, r_spec_l3Forward, bsl_one, bsl_none]
  refine loop_inv mixed (fun s => ∃ (q j : Nat) (M : Mem) (ia ib : Nat), j = q + 1 ∧ q ≤ k.need.length ∧ s.t 1 = .pointer (some ⟨m.length, 0, none⟩) ∧ s.t 4 = .slice (some ⟨ia, 0, none⟩) (fwdC k q).length 1 ∧ s.t 5 = .slice (some ⟨ib, 0, none⟩) (fwdL k q).length 1 ∧ s.t 6 = .int .i64 j ∧ s.m = M ∧ Grow (roM m ++ [⟨.own, 26, [v1, v2, v3, v4]⟩]) M ∧ OwnR M ia (fwdC k q) ∧ OwnR M ib (fwdL k q) ∧ ia ≠ ib ∧ m.length < ia ∧ m.length < ib) (fun s => k.need.length + 1 - (intOf (s.t 6)).toNat)
    ⟨0, 1, _, m.length + 1, m.length + 1 + 1, rfl, by omega, rfl, rfl, rfl, rfl, rfl, ((Grow.refl _).one _ _).one _ _, (OwnR.end' (l := [0]) (by simp [roM_len])).ext _, OwnR.end' (l := []) (by simp [roM_len]), by omega, by omega, by omega⟩ ?_
  rintro s ⟨q, j, M, ia, ib, hj, hq, t1, t4, t5, t6, tm, hx, oa, ob, hab, la, lb⟩
  obtain ⟨r0, r1, r2, r3, hlM⟩ := hx.box4
  by_cases hlt : j ≤ k.need.length
  · have hlt' : (j : Int) ≤ k.need.length := by omega
    simp (config := {implicitDefEqProofs := false, maxDischargeDepth := 20}) (disch := first | omega | (simp only [lenE]; done) | (simp only [lenE]; omega) | rfl | (simp only [lenE, markR_len]; done) | (simp only [lenE, markR_len]; omega)) only [runE, mapE, listE, initT_5, initT_6, initT_7, initT_8, resV, oneV, binA, unA, reduceCtorEq, Nat.reduceEqDiff, Nat.reduceAdd, Nat.reduceLT, Nat.reduceLeDiff, Nat.reduceMul, Nat.reduceSub, ↓reduceIte, decide_true, decide_false, Bool.true_eq_false, Bool.false_eq_true, Bool.not_true, Bool.not_false, if_true, if_false, and_true, true_and, memE, celE, w64, Nat.zero_add, Nat.add_zero, Nat.mul_one, putL, and_self, ldn, t1, t4, t5, t6, tm, hlt', r0, (hx.intsV h1).len]
    refine loop_inv mixed (fun s => ∃ (x : Nat) (M' : Mem), 1 ≤ x ∧ x ≤ j ∧ s.t 1 = .pointer (some ⟨m.length, 0, none⟩) ∧ s.t 4 = .slice (some ⟨ia, 0, none⟩) (fwdC k q).length 1 ∧ s.t 5 = .slice (some ⟨ib, 0, none⟩) (fwdL k q).length 1 ∧ s.t 6 = .int .i64 j ∧ s.t 7 = .int .i64 (lastB (valF k (fwdC k q) j) x : Nat) ∧ s.t 8 = .int .i64 x ∧ s.m = M' ∧ Grow M M') (fun s => j - (intOf (s.t 8)).toNat)
      ⟨1, M, by omega, by omega, by simp only [put_t, put_t', put_m, putT_t, putT_t', putT_m, init_t, init_m, initT_0, initT_1, initT_2, initT_3, initT_4, initT_5, initT_6, initT_7, initT_8, Nat.reduceEqDiff, ↓reduceIte, t1], by simp only [put_t, put_t', put_m, putT_t, putT_t', putT_m, init_t, init_m, initT_0, initT_1, initT_2, initT_3, initT_4, initT_5, initT_6, initT_7, initT_8, Nat.reduceEqDiff, ↓reduceIte, t4], by simp only [put_t, put_t', put_m, putT_t, putT_t', putT_m, init_t, init_m, initT_0, initT_1, initT_2, initT_3, initT_4, initT_5, initT_6, initT_7, initT_8, Nat.reduceEqDiff, ↓reduceIte, t5], by simp only [put_t, put_t', put_m, putT_t, putT_t', putT_m, init_t, init_m, initT_0, initT_1, initT_2, initT_3, initT_4, initT_5, initT_6, initT_7, initT_8, Nat.reduceEqDiff, ↓reduceIte, t6], by simp only [put_t, put_t', put_m, putT_t, putT_t', putT_m, init_t, init_m, initT_0, initT_1, initT_2, initT_3, initT_4, initT_5, initT_6, initT_7, initT_8, Nat.reduceEqDiff, ↓reduceIte, lastB_one]; rfl, rfl, by simp only [put_t, put_t', put_m, putT_t, putT_t', putT_m, init_t, init_m, initT_0, initT_1, initT_2, initT_3, initT_4, initT_5, initT_6, initT_7, initT_8, Nat.reduceEqDiff, ↓reduceIte, tm], Grow.refl _⟩ ?_
    rintro s2 ⟨x, M', h1x, hxj, u1, u4, u5, u6, u7, u8, um, hx'⟩
    have hxx := hx.trans hx'
    obtain ⟨q0, q1, q2, q3, hlM'⟩ := hxx.box4
    have fl := fwdC_len k q
    have ll := fwdL_len k q
    have ra := (hx'.own oa).ints (by omega) 1
    obtain ⟨b, hb⟩ : ∃ b, b = lastB (valF k (fwdC k q) j) x := ⟨_, rfl⟩
    have hbx : b < x := by
      have := lastB_lt (valF k (fwdC k q) j) (x - 1)
      rw [Nat.sub_add_cancel h1x] at this
      omega
    rw [← hb] at u7
    have hv : ∀ i, i ≤ q → 0 ≤ (fwdC k q).getD i 0 + spanF k i j ∧ (fwdC k q).getD i 0 + spanF k i j ≤ 130590 := fun i hi => by
      have := valF_in hg (i := i) (j := q) hi (by omega)
      unfold valF at this
      rw [← hj] at this
      omega
    have hvb := hv b (by omega)
    by_cases hlt2 : x < j
    · have hlt2' : (x : Int) < j := by omega
      have hvx := hv x (by omega)
      simp (config := {implicitDefEqProofs := false, maxDischargeDepth := 20}) (disch := first | omega | (simp only [lenE]; done) | (simp only [lenE]; omega) | rfl | (simp only [lenE, markR_len]; done) | (simp only [lenE, markR_len]; omega)) only [runE, mapE, listE, initT_5, initT_6, initT_7, initT_8, resV, oneV, binA, unA, reduceCtorEq, Nat.reduceEqDiff, Nat.reduceAdd, Nat.reduceLT, Nat.reduceLeDiff, Nat.reduceMul, Nat.reduceSub, ↓reduceIte, decide_true, decide_false, Bool.true_eq_false, Bool.false_eq_true, Bool.not_true, Bool.not_false, if_true, if_false, and_true, true_and, memE, celE, w64, Nat.zero_add, Nat.add_zero, Nat.mul_one, putL, and_self, ldn, u1, u4, u5, u6, u7, u8, um, hlt2', ra.at_ x (by omega), ra.ld x (by omega), ra.at_ b (by omega), ra.ld b (by omega), q0, q1, q2, q3]
      refine rcallH_rc (l3Span_rc _ _ k x j (hxx.caseV hc) hg hlt2 hlt) ?_
      rintro r new ⟨rfl, nr⟩
      simp (config := {implicitDefEqProofs := false, maxDischargeDepth := 20}) (disch := first | omega | (simp only [lenE]; done) | (simp only [lenE]; omega) | rfl | (simp only [lenE, markR_len]; done) | (simp only [lenE, markR_len]; omega)) only [runE, mapE, listE, initT_5, initT_6, initT_7, initT_8, resV, oneV, binA, unA, reduceCtorEq, Nat.reduceEqDiff, Nat.reduceAdd, Nat.reduceLT, Nat.reduceLeDiff, Nat.reduceMul, Nat.reduceSub, ↓reduceIte, decide_true, decide_false, Bool.true_eq_false, Bool.false_eq_true, Bool.not_true, Bool.not_false, if_true, if_false, and_true, true_and, memE, celE, w64, Nat.zero_add, Nat.add_zero, Nat.mul_one, putL, and_self, ldn]
      refine rcallH_rc (l3Span_rc _ _ k b j ((hxx.caseV hc).ext _) hg (by omega) hlt) ?_
      rintro r new2 ⟨rfl, nr2⟩
      by_cases hle : (fwdC k q).getD x 0 + spanF k x j ≤ (fwdC k q).getD b 0 + spanF k b j
      · simp (config := {implicitDefEqProofs := false, maxDischargeDepth := 20}) (disch := first | omega | (simp only [lenE]; done) | (simp only [lenE]; omega) | rfl | (simp only [lenE, markR_len]; done) | (simp only [lenE, markR_len]; omega)) only [runE, mapE, listE, initT_5, initT_6, initT_7, initT_8, resV, oneV, binA, unA, reduceCtorEq, Nat.reduceEqDiff, Nat.reduceAdd, Nat.reduceLT, Nat.reduceLeDiff, Nat.reduceMul, Nat.reduceSub, ↓reduceIte, decide_true, decide_false, Bool.true_eq_false, Bool.false_eq_true, Bool.not_true, Bool.not_false, if_true, if_false, and_true, true_and, memE, celE, w64, Nat.zero_add, Nat.add_zero, Nat.mul_one, putL, and_self, ldn, u1, u4, u5, u6, u7, u8, um, hle]
        exact ⟨⟨x + 1, _, by omega, by omega, by rw [lastB, ← hb]; unfold valF; rw [if_pos hle], by simp, rfl, (hx'.app nr).app nr2⟩, by simp [intOf]; omega⟩
      · simp (config := {implicitDefEqProofs := false, maxDischargeDepth := 20}) (disch := first | omega | (simp only [lenE]; done) | (simp only [lenE]; omega) | rfl | (simp only [lenE, markR_len]; done) | (simp only [lenE, markR_len]; omega)) only [runE, mapE, listE, initT_5, initT_6, initT_7, initT_8, resV, oneV, binA, unA, reduceCtorEq, Nat.reduceEqDiff, Nat.reduceAdd, Nat.reduceLT, Nat.reduceLeDiff, Nat.reduceMul, Nat.reduceSub, ↓reduceIte, decide_true, decide_false, Bool.true_eq_false, Bool.false_eq_true, Bool.not_true, Bool.not_false, if_true, if_false, and_true, true_and, memE, celE, w64, Nat.zero_add, Nat.add_zero, Nat.mul_one, putL, and_self, ldn, u1, u4, u5, u6, u7, u8, um, hle]
        exact ⟨⟨x + 1, _, by omega, by omega, by rw [lastB, ← hb]; unfold valF; rw [if_neg hle], by simp, rfl, (hx'.app nr).app nr2⟩, by simp [intOf]; omega⟩
    · have hlt2' : ¬ ((x : Int) < j) := by omega
      have hxe : x = j := by omega
      subst hxe
      simp (config := {implicitDefEqProofs := false, maxDischargeDepth := 20}) (disch := first | omega | (simp only [lenE]; done) | (simp only [lenE]; omega) | rfl | (simp only [lenE, markR_len]; done) | (simp only [lenE, markR_len]; omega)) only [runE, mapE, listE, initT_5, initT_6, initT_7, initT_8, resV, oneV, binA, unA, reduceCtorEq, Nat.reduceEqDiff, Nat.reduceAdd, Nat.reduceLT, Nat.reduceLeDiff, Nat.reduceMul, Nat.reduceSub, ↓reduceIte, decide_true, decide_false, Bool.true_eq_false, Bool.false_eq_true, Bool.not_true, Bool.not_false, if_true, if_false, and_true, true_and, memE, celE, w64, Nat.zero_add, Nat.add_zero, Nat.mul_one, putL, and_self, ldn, u1, u4, u5, u6, u7, u8, um, hlt2', ra.at_ b (by omega), ra.ld b (by omega), q0, q1, q2, q3]
      refine rcallH_rc (l3Span_rc _ _ k b x (hxx.caseV hc) hg hbx hlt) ?_
      rintro r new ⟨rfl, nr⟩
      have oa' := (hx'.own oa).ext new
      have ob' := (hx'.own ob).ext new
      have la' := oa'.lt
      have lb' := ob'.lt
      simp only [List.length_append] at la' lb'
      have ap1 := fun id2 n => app_genH (M := M' ++ new) (x := (fwdC k q).getD b 0 + spanF k b x) (id2 := id2) (n := n) oa' (by omega)
      have ap2 := fun id2 n => app_genH (M := (M' ++ new).set ia deadB ++ [⟨.own, 3, [.int .i64 ((fwdC k q).getD b 0 + spanF k b x)]⟩] ++ [⟨.own, 3, (fwdC k q ++ [(fwdC k q).getD b 0 + spanF k b x]).map (Value.int .i64)⟩]) (x := (b : Int)) (id2 := id2) (n := n) (((ob'.dead hab).ext _).ext _) (by omega)
      simp (config := {implicitDefEqProofs := false, maxDischargeDepth := 20}) (disch := first | omega | (simp only [lenE]; done) | (simp only [lenE]; omega) | rfl | (simp only [lenE, markR_len]; done) | (simp only [lenE, markR_len]; omega)) only [runE, mapE, listE, initT_5, initT_6, initT_7, initT_8, resV, oneV, binA, unA, reduceCtorEq, Nat.reduceEqDiff, Nat.reduceAdd, Nat.reduceLT, Nat.reduceLeDiff, Nat.reduceMul, Nat.reduceSub, ↓reduceIte, decide_true, decide_false, Bool.true_eq_false, Bool.false_eq_true, Bool.not_true, Bool.not_false, if_true, if_false, and_true, true_and, memE, celE, w64, Nat.zero_add, Nat.add_zero, Nat.mul_one, putL, and_self, ldn, u1, u4, u5, u6, u7, u8, um, bsl_one, ap1, ap2]
      have eC : fwdC k (q + 1) = fwdC k q ++ [(fwdC k q).getD b 0 + spanF k b x] := by rw [fwdC, ← hj, ← hb]; rfl
      have eL : fwdL k (q + 1) = fwdL k q ++ [(b : Int)] := by rw [fwdL]; unfold fwdB; rw [← hj, ← hb]
      refine ⟨⟨q + 1, x + 1, _, _, _, by omega, by omega, by rw [eC, List.length_append, List.length_singleton], by rw [eL, List.length_append, List.length_singleton], by simp, rfl,
        (((((((hxx.app nr).dead ?_).one _ _).one _ _).dead ?_).one _ _).one _ _), ?_, ?_, ?_, ?_, ?_⟩, by simp [intOf]; omega⟩
      · simp [roM_len]; omega
      · simp [roM_len]; omega
      · rw [eC]
        refine (((OwnR.end' (l := fwdC k q ++ [(fwdC k q).getD b 0 + spanF k b x]) ?_).dead ?_).ext _).ext _
        · simp
        · omega
      · rw [eL]
        refine OwnR.end' (l := fwdL k q ++ [(b : Int)]) ?_
        simp
      all_goals omega
  · have hlt' : ¬ ((j : Int) ≤ k.need.length) := by omega
    have e : q = k.need.length := by omega
    subst e
    simp (config := {implicitDefEqProofs := false, maxDischargeDepth := 20}) (disch := first | omega | (simp only [lenE]; done) | (simp only [lenE]; omega) | rfl | (simp only [lenE, markR_len]; done) | (simp only [lenE, markR_len]; omega)) only [runE, mapE, listE, initT_5, initT_6, initT_7, initT_8, resV, oneV, binA, unA, reduceCtorEq, Nat.reduceEqDiff, Nat.reduceAdd, Nat.reduceLT, Nat.reduceLeDiff, Nat.reduceMul, Nat.reduceSub, ↓reduceIte, decide_true, decide_false, Bool.true_eq_false, Bool.false_eq_true, Bool.not_true, Bool.not_false, if_true, if_false, and_true, true_and, memE, celE, w64, Nat.zero_add, Nat.add_zero, Nat.mul_one, putL, and_self, ldn, t1, t4, t5, t6, tm, hlt', r0, (hx.intsV h1).len]
    exact ext_ansT hx.ext oa ob (by omega) (by omega) rfl rfl

theorem forwardTable_rc (m : Mem) (v : Value) (k : Cs) (h : CaseA m v k) (hg : Good k) :
    RC Try.prog 128 [v] m (AnsT m (fwdC k k.need.length) (fwdL k k.need.length)) := by
  refine rc_of_run mixed ok_impl_forwardTable (by simp) (go_start _ _ _ ?_)
  obtain ⟨v1, v2, v3, v4, rfl, h1, h2, h3, h4⟩ := h.ro.ok
  have hc : CaseA (roM m) (.agg #[v1, v2, v3, v4]) k := ⟨_, _, _, _, rfl, h1, h2, h3, h4⟩
  have h8 := hg.n8
  simp (config := {implicitDefEqProofs := false, maxDischargeDepth := 20}) (disch := first | omega | (simp only [lenE]; done) | (simp only [lenE]; omega) | rfl | (simp only [lenE, markR_len]; done) | (simp only [lenE, markR_len]; omega)) only [runE, mapE, listE, initT_5, initT_6, initT_7, initT_8, resV, oneV, binA, unA, reduceCtorEq, Nat.reduceEqDiff, Nat.reduceAdd, Nat.reduceLT, Nat.reduceLeDiff, Nat.reduceMul, Nat.reduceSub, ↓reduceIte, decide_true, decide_false, Bool.true_eq_false, Bool.false_eq_true, Bool.not_true, Bool.not_false, if_true, if_false, and_true, true_and, memE, celE, w64, Nat.zero_add, Nat.add_zero, Nat.mul_one, putL, and_self, ldn, c_impl_forwardTable, r_impl_forwardTable, bsl_one, bsl_none]
  refine loop_inv mixed (fun s => ∃ (q j : Nat) (M : Mem) (ia ib : Nat), j = q + 1 ∧ q ≤ k.need.length ∧ s.t 1 = .pointer (some ⟨m.length, 0, none⟩) ∧ s.t 4 = .slice (some ⟨ia, 0, none⟩) (fwdC k q).length 1 ∧ s.t 5 = .slice (some ⟨ib, 0, none⟩) (fwdL k q).length 1 ∧ s.t 6 = .int .i64 j ∧ s.m = M ∧ Grow (roM m ++ [⟨.own, 26, [v1, v2, v3, v4]⟩]) M ∧ OwnR M ia (fwdC k q) ∧ OwnR M ib (fwdL k q) ∧ ia ≠ ib ∧ m.length < ia ∧ m.length < ib) (fun s => k.need.length + 1 - (intOf (s.t 6)).toNat)
    ⟨0, 1, _, m.length + 1, m.length + 1 + 1, rfl, by omega, rfl, rfl, rfl, rfl, rfl, ((Grow.refl _).one _ _).one _ _, (OwnR.end' (l := [0]) (by simp [roM_len])).ext _, OwnR.end' (l := []) (by simp [roM_len]), by omega, by omega, by omega⟩ ?_
  rintro s ⟨q, j, M, ia, ib, hj, hq, t1, t4, t5, t6, tm, hx, oa, ob, hab, la, lb⟩
  obtain ⟨r0, r1, r2, r3, hlM⟩ := hx.box4
  by_cases hlt : j ≤ k.need.length
  · have hlt' : (j : Int) ≤ k.need.length := by omega
    simp (config := {implicitDefEqProofs := false, maxDischargeDepth := 20}) (disch := first | omega | (simp only [lenE]; done) | (simp only [lenE]; omega) | rfl | (simp only [lenE, markR_len]; done) | (simp only [lenE, markR_len]; omega)) only [runE, mapE, listE, initT_5, initT_6, initT_7, initT_8, resV, oneV, binA, unA, reduceCtorEq, Nat.reduceEqDiff, Nat.reduceAdd, Nat.reduceLT, Nat.reduceLeDiff, Nat.reduceMul, Nat.reduceSub, ↓reduceIte, decide_true, decide_false, Bool.true_eq_false, Bool.false_eq_true, Bool.not_true, Bool.not_false, if_true, if_false, and_true, true_and, memE, celE, w64, Nat.zero_add, Nat.add_zero, Nat.mul_one, putL, and_self, ldn, t1, t4, t5, t6, tm, hlt', r0, r1, r2, r3, (hx.intsV h1).len]
    refine callH_rc (orderCost_rc _ _ k 0 j (hx.caseV hc) hg (by omega) hlt) ?_
    rintro r new0 ⟨rfl, nr0⟩
    simp (config := {implicitDefEqProofs := false, maxDischargeDepth := 20}) (disch := first | omega | (simp only [lenE]; done) | (simp only [lenE]; omega) | rfl | (simp only [lenE, markR_len]; done) | (simp only [lenE, markR_len]; omega)) only [runE, mapE, listE, initT_5, initT_6, initT_7, initT_8, resV, oneV, binA, unA, reduceCtorEq, Nat.reduceEqDiff, Nat.reduceAdd, Nat.reduceLT, Nat.reduceLeDiff, Nat.reduceMul, Nat.reduceSub, ↓reduceIte, decide_true, decide_false, Bool.true_eq_false, Bool.false_eq_true, Bool.not_true, Bool.not_false, if_true, if_false, and_true, true_and, memE, celE, w64, Nat.zero_add, Nat.add_zero, Nat.mul_one, putL, and_self, ldn, t1, t4, t5, t6, tm]
    refine loop_inv mixed (fun s => ∃ (x : Nat) (M' : Mem), 1 ≤ x ∧ x ≤ j ∧ s.t 1 = .pointer (some ⟨m.length, 0, none⟩) ∧ s.t 4 = .slice (some ⟨ia, 0, none⟩) (fwdC k q).length 1 ∧ s.t 5 = .slice (some ⟨ib, 0, none⟩) (fwdL k q).length 1 ∧ s.t 6 = .int .i64 j ∧ s.t 7 = .int .i64 (valF k (fwdC k q) j (lastB (valF k (fwdC k q) j) x)) ∧ s.t 8 = .int .i64 (lastB (valF k (fwdC k q) j) x : Nat) ∧ s.t 9 = .int .i64 x ∧ s.m = M' ∧ Grow M M') (fun s => j - (intOf (s.t 9)).toNat)
      ⟨1, _, by omega, by omega, by simp only [put_t, put_t', put_m, putT_t, putT_t', putT_m, init_t, init_m, initT_0, initT_1, initT_2, initT_3, initT_4, initT_5, initT_6, initT_7, initT_8, Nat.reduceEqDiff, ↓reduceIte, t1], by simp only [put_t, put_t', put_m, putT_t, putT_t', putT_m, init_t, init_m, initT_0, initT_1, initT_2, initT_3, initT_4, initT_5, initT_6, initT_7, initT_8, Nat.reduceEqDiff, ↓reduceIte, t4], by simp only [put_t, put_t', put_m, putT_t, putT_t', putT_m, init_t, init_m, initT_0, initT_1, initT_2, initT_3, initT_4, initT_5, initT_6, initT_7, initT_8, Nat.reduceEqDiff, ↓reduceIte, t5], by simp only [put_t, put_t', put_m, putT_t, putT_t', putT_m, init_t, init_m, initT_0, initT_1, initT_2, initT_3, initT_4, initT_5, initT_6, initT_7, initT_8, Nat.reduceEqDiff, ↓reduceIte, t6], by simp only [put_t, put_t', put_m, putT_t, putT_t', putT_m, init_t, init_m, initT_0, initT_1, initT_2, initT_3, initT_4, initT_5, initT_6, initT_7, initT_8, Nat.reduceEqDiff, ↓reduceIte, lastB_one]; unfold valF; rw [fwdC_at0, Int.zero_add], by simp only [put_t, put_t', put_m, putT_t, putT_t', putT_m, init_t, init_m, initT_0, initT_1, initT_2, initT_3, initT_4, initT_5, initT_6, initT_7, initT_8, Nat.reduceEqDiff, ↓reduceIte, lastB_one]; rfl, rfl, by simp only [put_t, put_t', put_m, putT_t, putT_t', putT_m, init_t, init_m, initT_0, initT_1, initT_2, initT_3, initT_4, initT_5, initT_6, initT_7, initT_8, Nat.reduceEqDiff, ↓reduceIte, tm], (Grow.refl _).app nr0⟩ ?_
    rintro s2 ⟨x, M', h1x, hxj, u1, u4, u5, u6, u7, u8, u9, um, hx'⟩
    have hxx := hx.trans hx'
    obtain ⟨q0, q1, q2, q3, hlM'⟩ := hxx.box4
    have fl := fwdC_len k q
    have ll := fwdL_len k q
    have ra := (hx'.own oa).ints (by omega) 1
    obtain ⟨b, hb⟩ : ∃ b, b = lastB (valF k (fwdC k q) j) x := ⟨_, rfl⟩
    have hbx : b < x := by
      have := lastB_lt (valF k (fwdC k q) j) (x - 1)
      rw [Nat.sub_add_cancel h1x] at this
      omega
    rw [← hb] at u7 u8
    have hv : ∀ i, i ≤ q → 0 ≤ valF k (fwdC k q) j i ∧ valF k (fwdC k q) j i ≤ 130590 := fun i hi => by
      have := valF_in hg (i := i) (j := q) hi (by omega)
      rw [← hj] at this
      omega
    have hvb := hv b (by omega)
    by_cases hlt2 : x < j
    · have hlt2' : (x : Int) < j := by omega
      have hvx := hv x (by omega)
      have hvx2 := hvx
      unfold valF at hvx2
      simp (config := {implicitDefEqProofs := false, maxDischargeDepth := 20}) (disch := first | omega | (simp only [lenE]; done) | (simp only [lenE]; omega) | rfl | (simp only [lenE, markR_len]; done) | (simp only [lenE, markR_len]; omega)) only [runE, mapE, listE, initT_5, initT_6, initT_7, initT_8, resV, oneV, binA, unA, reduceCtorEq, Nat.reduceEqDiff, Nat.reduceAdd, Nat.reduceLT, Nat.reduceLeDiff, Nat.reduceMul, Nat.reduceSub, ↓reduceIte, decide_true, decide_false, Bool.true_eq_false, Bool.false_eq_true, Bool.not_true, Bool.not_false, if_true, if_false, and_true, true_and, memE, celE, w64, Nat.zero_add, Nat.add_zero, Nat.mul_one, putL, and_self, ldn, u1, u4, u5, u6, u7, u8, u9, um, hlt2', ra.at_ x (by omega), ra.ld x (by omega), q0, q1, q2, q3]
      refine rcallH_rc (orderCost_rc _ _ k x j (hxx.caseV hc) hg hlt2 hlt) ?_
      rintro r new ⟨rfl, nr⟩
      by_cases hle : (fwdC k q).getD x 0 + spanF k x j ≤ valF k (fwdC k q) j b
      · simp (config := {implicitDefEqProofs := false, maxDischargeDepth := 20}) (disch := first | omega | (simp only [lenE]; done) | (simp only [lenE]; omega) | rfl | (simp only [lenE, markR_len]; done) | (simp only [lenE, markR_len]; omega)) only [runE, mapE, listE, initT_5, initT_6, initT_7, initT_8, resV, oneV, binA, unA, reduceCtorEq, Nat.reduceEqDiff, Nat.reduceAdd, Nat.reduceLT, Nat.reduceLeDiff, Nat.reduceMul, Nat.reduceSub, ↓reduceIte, decide_true, decide_false, Bool.true_eq_false, Bool.false_eq_true, Bool.not_true, Bool.not_false, if_true, if_false, and_true, true_and, memE, celE, w64, Nat.zero_add, Nat.add_zero, Nat.mul_one, putL, and_self, ldn, u1, u4, u5, u6, u7, u8, u9, um, hle]
        exact ⟨⟨x + 1, _, by omega, by omega, by rw [lastB, ← hb, if_pos (by unfold valF at hle ⊢; exact hle)]; rfl, by rw [lastB, ← hb, if_pos (by unfold valF at hle ⊢; exact hle)], by simp, rfl, hx'.app nr⟩, by simp [intOf]; omega⟩
      · simp (config := {implicitDefEqProofs := false, maxDischargeDepth := 20}) (disch := first | omega | (simp only [lenE]; done) | (simp only [lenE]; omega) | rfl | (simp only [lenE, markR_len]; done) | (simp only [lenE, markR_len]; omega)) only [runE, mapE, listE, initT_5, initT_6, initT_7, initT_8, resV, oneV, binA, unA, reduceCtorEq, Nat.reduceEqDiff, Nat.reduceAdd, Nat.reduceLT, Nat.reduceLeDiff, Nat.reduceMul, Nat.reduceSub, ↓reduceIte, decide_true, decide_false, Bool.true_eq_false, Bool.false_eq_true, Bool.not_true, Bool.not_false, if_true, if_false, and_true, true_and, memE, celE, w64, Nat.zero_add, Nat.add_zero, Nat.mul_one, putL, and_self, ldn, u1, u4, u5, u6, u7, u8, u9, um, hle]
        exact ⟨⟨x + 1, _, by omega, by omega, by rw [lastB, ← hb, if_neg (by unfold valF at hle ⊢; exact hle)], by rw [lastB, ← hb, if_neg (by unfold valF at hle ⊢; exact hle)], by simp, rfl, hx'.app nr⟩, by simp [intOf]; omega⟩
    · have hlt2' : ¬ ((x : Int) < j) := by omega
      have hxe : x = j := by omega
      subst hxe
      have oa' := hx'.own oa
      have ob' := hx'.own ob
      have la' := oa'.lt
      have lb' := ob'.lt
      have ap1 := fun id2 n => app_genH (M := M') (x := valF k (fwdC k q) x b) (id2 := id2) (n := n) oa' (by omega)
      have ap2 := fun id2 n => app_genH (M := M'.set ia deadB ++ [⟨.own, 3, [.int .i64 (valF k (fwdC k q) x b)]⟩] ++ [⟨.own, 3, (fwdC k q ++ [valF k (fwdC k q) x b]).map (Value.int .i64)⟩]) (x := (b : Int)) (id2 := id2) (n := n) (((ob'.dead hab).ext _).ext _) (by omega)
      simp (config := {implicitDefEqProofs := false, maxDischargeDepth := 20}) (disch := first | omega | (simp only [lenE]; done) | (simp only [lenE]; omega) | rfl | (simp only [lenE, markR_len]; done) | (simp only [lenE, markR_len]; omega)) only [runE, mapE, listE, initT_5, initT_6, initT_7, initT_8, resV, oneV, binA, unA, reduceCtorEq, Nat.reduceEqDiff, Nat.reduceAdd, Nat.reduceLT, Nat.reduceLeDiff, Nat.reduceMul, Nat.reduceSub, ↓reduceIte, decide_true, decide_false, Bool.true_eq_false, Bool.false_eq_true, Bool.not_true, Bool.not_false, if_true, if_false, and_true, true_and, memE, celE, w64, Nat.zero_add, Nat.add_zero, Nat.mul_one, putL, and_self, ldn, u1, u4, u5, u6, u7, u8, u9, um, hlt2', bsl_one, ap1, ap2]
      have eC : fwdC k (q + 1) = fwdC k q ++ [valF k (fwdC k q) x b] := by rw [fwdC, ← hj, ← hb]
      have eL : fwdL k (q + 1) = fwdL k q ++ [(b : Int)] := by rw [fwdL]; unfold fwdB; rw [← hj, ← hb]
      refine ⟨⟨q + 1, x + 1, _, _, _, by omega, by omega, by rw [eC, List.length_append, List.length_singleton], by rw [eL, List.length_append, List.length_singleton], by simp, rfl,
        ((((((hxx.dead ?_).one _ _).one _ _).dead ?_).one _ _).one _ _), ?_, ?_, ?_, ?_, ?_⟩, by simp [intOf]; omega⟩
      · simp [roM_len]; omega
      · simp [roM_len]; omega
      · rw [eC]
        refine (((OwnR.end' (l := fwdC k q ++ [valF k (fwdC k q) x b]) ?_).dead ?_).ext _).ext _
        · simp
        · omega
      · rw [eL]
        refine OwnR.end' (l := fwdL k q ++ [(b : Int)]) ?_
        simp
      all_goals omega
  · have hlt' : ¬ ((j : Int) ≤ k.need.length) := by omega
    have e : q = k.need.length := by omega
    subst e
    simp (config := {implicitDefEqProofs := false, maxDischargeDepth := 20}) (disch := first | omega | (simp only [lenE]; done) | (simp only [lenE]; omega) | rfl | (simp only [lenE, markR_len]; done) | (simp only [lenE, markR_len]; omega)) only [runE, mapE, listE, initT_5, initT_6, initT_7, initT_8, resV, oneV, binA, unA, reduceCtorEq, Nat.reduceEqDiff, Nat.reduceAdd, Nat.reduceLT, Nat.reduceLeDiff, Nat.reduceMul, Nat.reduceSub, ↓reduceIte, decide_true, decide_false, Bool.true_eq_false, Bool.false_eq_true, Bool.not_true, Bool.not_false, if_true, if_false, and_true, true_and, memE, celE, w64, Nat.zero_add, Nat.add_zero, Nat.mul_one, putL, and_self, ldn, t1, t4, t5, t6, tm, hlt', r0, (hx.intsV h1).len]
    exact ext_ansT hx.ext oa ob (by omega) (by omega) rfl rfl

def forwardA (k : Cs) : List Int := if k.good then fwdC k k.need.length else []
theorem forwardA_no {k : Cs} (h : k.good = false) : forwardA k = [] := by unfold forwardA; rw [h]; rfl
theorem forwardA_yes {k : Cs} (h : k.good = true) : forwardA k = fwdC k k.need.length := by unfold forwardA; rw [h]; rfl
theorem specForward_rc (m : Mem) (v : Value) (k : Cs) (h : CaseA m v k) : RC Try.prog 16 [v] m (AnsL m (forwardA k) k.good) := by
  refine rc_of_run mixed ok_spec_ForwardCosts (by simp) (go_start _ _ _ ?_)
  obtain ⟨v1, v2, v3, v4, rfl, h1, h2, h3, h4⟩ := h.ro.ok
  have hc : CaseA (roM m) (.agg #[v1, v2, v3, v4]) k := ⟨_, _, _, _, rfl, h1, h2, h3, h4⟩
  simp (config := {implicitDefEqProofs := false, maxDischargeDepth := 20}) (disch := first | omega | (simp only [lenE]; done) | (simp only [lenE]; omega) | rfl | (simp only [lenE, markR_len]; done) | (simp only [lenE, markR_len]; omega)) only [runE, mapE, listE, initT_5, initT_6, initT_7, initT_8, resV, oneV, binA, unA, reduceCtorEq, Nat.reduceEqDiff, Nat.reduceAdd, Nat.reduceLT, Nat.reduceLeDiff, Nat.reduceMul, Nat.reduceSub, ↓reduceIte, decide_true, decide_false, Bool.true_eq_false, Bool.false_eq_true, Bool.not_true, Bool.not_false, if_true, if_false, and_true, true_and, memE, celE, w64, Nat.zero_add, Nat.add_zero, Nat.mul_one, putL, and_self, ldn, c_spec_ForwardCosts, r_spec_ForwardCosts]
  refine callH_rc (l2Good_rc _ _ k (hc.ext _)) ?_
  rintro r new ⟨rfl, nr1⟩
  have hx : Grow (roM m ++ [⟨.own, 26, [v1, v2, v3, v4]⟩]) (roM m ++ [⟨.own, 26, [v1, v2, v3, v4]⟩] ++ new) := (Grow.refl _).app nr1
  cases hg : k.good with
  | false =>
    simp (config := {implicitDefEqProofs := false, maxDischargeDepth := 20}) (disch := first | omega | (simp only [lenE]; done) | (simp only [lenE]; omega) | rfl | (simp only [lenE, markR_len]; done) | (simp only [lenE, markR_len]; omega)) only [runE, mapE, listE, initT_5, initT_6, initT_7, initT_8, resV, oneV, binA, unA, reduceCtorEq, Nat.reduceEqDiff, Nat.reduceAdd, Nat.reduceLT, Nat.reduceLeDiff, Nat.reduceMul, Nat.reduceSub, ↓reduceIte, decide_true, decide_false, Bool.true_eq_false, Bool.false_eq_true, Bool.not_true, Bool.not_false, if_true, if_false, and_true, true_and, memE, celE, w64, Nat.zero_add, Nat.add_zero, Nat.mul_one, putL, and_self, ldn, bsl_none]
    rw [forwardA_no hg]
    refine ext_ansL (hx.ext.one _ _) (OwnR.end' (l := []) ?_) (by omega) rfl (by simp)
    simp only [List.length_append, List.length_cons, List.length_nil, roM_len]
  | true =>
    have gd := good_iff.1 hg
    have h8 := gd.n8
    rw [forwardA_yes hg]
    have fl := fwdC_len k k.need.length
    have ll := fwdL_len k k.need.length
    simp (config := {implicitDefEqProofs := false, maxDischargeDepth := 20}) (disch := first | omega | (simp only [lenE]; done) | (simp only [lenE]; omega) | rfl | (simp only [lenE, markR_len]; done) | (simp only [lenE, markR_len]; omega)) only [runE, mapE, listE, initT_5, initT_6, initT_7, initT_8, resV, oneV, binA, unA, reduceCtorEq, Nat.reduceEqDiff, Nat.reduceAdd, Nat.reduceLT, Nat.reduceLeDiff, Nat.reduceMul, Nat.reduceSub, ↓reduceIte, decide_true, decide_false, Bool.true_eq_false, Bool.false_eq_true, Bool.not_true, Bool.not_false, if_true, if_false, and_true, true_and, memE, celE, w64, Nat.zero_add, Nat.add_zero, Nat.mul_one, putL, and_self, ldn]
    refine callH_rc (l3Forward_rc _ _ k (hx.caseV hc) gd) ?_
    intro r new2 hA
    obtain ⟨d1, d2, f1, f2, rfl, l1, l2, o1, o2, nr2⟩ := hA.rows
    have hx2 := hx.app nr2
    simp only [List.length_append, List.length_cons, List.length_nil, roM_len] at l1 l2
    simp (config := {implicitDefEqProofs := false, maxDischargeDepth := 20}) (disch := first | omega | (simp only [lenE]; done) | (simp only [lenE]; omega) | rfl | (simp only [lenE, markR_len]; done) | (simp only [lenE, markR_len]; omega)) only [runE, mapE, listE, initT_5, initT_6, initT_7, initT_8, resV, oneV, binA, unA, reduceCtorEq, Nat.reduceEqDiff, Nat.reduceAdd, Nat.reduceLT, Nat.reduceLeDiff, Nat.reduceMul, Nat.reduceSub, ↓reduceIte, decide_true, decide_false, Bool.true_eq_false, Bool.false_eq_true, Bool.not_true, Bool.not_false, if_true, if_false, and_true, true_and, memE, celE, w64, Nat.zero_add, Nat.add_zero, Nat.mul_one, putL, and_self, ldn, ext_2_0, ext_2_1]
    exact ext_ansL hx2.ext o1 (by omega) rfl (by omega)

theorem implForward_rc (m : Mem) (v : Value) (k : Cs) (h : CaseA m v k) : RC Try.prog 15 [v] m (AnsL m (forwardA k) k.good) := by
  refine rc_of_run mixed ok_impl_ForwardCosts (by simp) (go_start _ _ _ ?_)
  obtain ⟨v1, v2, v3, v4, rfl, h1, h2, h3, h4⟩ := h.ro.ok
  have hc : CaseA (roM m) (.agg #[v1, v2, v3, v4]) k := ⟨_, _, _, _, rfl, h1, h2, h3, h4⟩
  simp (config := {implicitDefEqProofs := false, maxDischargeDepth := 20}) (disch := first | omega | (simp only [lenE]; done) | (simp only [lenE]; omega) | rfl | (simp only [lenE, markR_len]; done) | (simp only [lenE, markR_len]; omega)) only [runE, mapE, listE, initT_5, initT_6, initT_7, initT_8, resV, oneV, binA, unA, reduceCtorEq, Nat.reduceEqDiff, Nat.reduceAdd, Nat.reduceLT, Nat.reduceLeDiff, Nat.reduceMul, Nat.reduceSub, ↓reduceIte, decide_true, decide_false, Bool.true_eq_false, Bool.false_eq_true, Bool.not_true, Bool.not_false, if_true, if_false, and_true, true_and, memE, celE, w64, Nat.zero_add, Nat.add_zero, Nat.mul_one, putL, and_self, ldn, c_impl_ForwardCosts, r_impl_ForwardCosts]
  refine callH_rc (implIsCase_rc _ _ k (hc.ext _)) ?_
  rintro r new ⟨rfl, nr1⟩
  have hx : Grow (roM m ++ [⟨.own, 26, [v1, v2, v3, v4]⟩]) (roM m ++ [⟨.own, 26, [v1, v2, v3, v4]⟩] ++ new) := (Grow.refl _).app nr1
  cases hg : k.good with
  | false =>
    simp (config := {implicitDefEqProofs := false, maxDischargeDepth := 20}) (disch := first | omega | (simp only [lenE]; done) | (simp only [lenE]; omega) | rfl | (simp only [lenE, markR_len]; done) | (simp only [lenE, markR_len]; omega)) only [runE, mapE, listE, initT_5, initT_6, initT_7, initT_8, resV, oneV, binA, unA, reduceCtorEq, Nat.reduceEqDiff, Nat.reduceAdd, Nat.reduceLT, Nat.reduceLeDiff, Nat.reduceMul, Nat.reduceSub, ↓reduceIte, decide_true, decide_false, Bool.true_eq_false, Bool.false_eq_true, Bool.not_true, Bool.not_false, if_true, if_false, and_true, true_and, memE, celE, w64, Nat.zero_add, Nat.add_zero, Nat.mul_one, putL, and_self, ldn, bsl_none]
    rw [forwardA_no hg]
    refine ext_ansL (hx.ext.one _ _) (OwnR.end' (l := []) ?_) (by omega) rfl (by simp)
    simp only [List.length_append, List.length_cons, List.length_nil, roM_len]
  | true =>
    have gd := good_iff.1 hg
    have h8 := gd.n8
    rw [forwardA_yes hg]
    have fl := fwdC_len k k.need.length
    have ll := fwdL_len k k.need.length
    simp (config := {implicitDefEqProofs := false, maxDischargeDepth := 20}) (disch := first | omega | (simp only [lenE]; done) | (simp only [lenE]; omega) | rfl | (simp only [lenE, markR_len]; done) | (simp only [lenE, markR_len]; omega)) only [runE, mapE, listE, initT_5, initT_6, initT_7, initT_8, resV, oneV, binA, unA, reduceCtorEq, Nat.reduceEqDiff, Nat.reduceAdd, Nat.reduceLT, Nat.reduceLeDiff, Nat.reduceMul, Nat.reduceSub, ↓reduceIte, decide_true, decide_false, Bool.true_eq_false, Bool.false_eq_true, Bool.not_true, Bool.not_false, if_true, if_false, and_true, true_and, memE, celE, w64, Nat.zero_add, Nat.add_zero, Nat.mul_one, putL, and_self, ldn]
    refine callH_rc (forwardTable_rc _ _ k (hx.caseV hc) gd) ?_
    intro r new2 hA
    obtain ⟨d1, d2, f1, f2, rfl, l1, l2, o1, o2, nr2⟩ := hA.rows
    have hx2 := hx.app nr2
    simp only [List.length_append, List.length_cons, List.length_nil, roM_len] at l1 l2
    simp (config := {implicitDefEqProofs := false, maxDischargeDepth := 20}) (disch := first | omega | (simp only [lenE]; done) | (simp only [lenE]; omega) | rfl | (simp only [lenE, markR_len]; done) | (simp only [lenE, markR_len]; omega)) only [runE, mapE, listE, initT_5, initT_6, initT_7, initT_8, resV, oneV, binA, unA, reduceCtorEq, Nat.reduceEqDiff, Nat.reduceAdd, Nat.reduceLT, Nat.reduceLeDiff, Nat.reduceMul, Nat.reduceSub, ↓reduceIte, decide_true, decide_false, Bool.true_eq_false, Bool.false_eq_true, Bool.not_true, Bool.not_false, if_true, if_false, and_true, true_and, memE, celE, w64, Nat.zero_add, Nat.add_zero, Nat.mul_one, putL, and_self, ldn, ext_2_0, ext_2_1]
    exact ext_ansL hx2.ext o1 (by omega) rfl (by omega)

end Go.Proofs.Ytncajinepljdhaa.Ab
end
section
namespace Go.Proofs.Ytncajinepljdhaa.Ab
open Go Go.RowKit
set_option linter.unusedVariables false
set_option linter.unusedSimpArgs false
theorem OwnR.rd {M : Mem} {id i : Nat} {L : List Int} (h : OwnR M id L) (hi : i < L.length) : rdc M id i = some (.int .i64 (L.getD i 0)) := by
  unfold rdc
  rw [show M[id]? = some (rowB L) from h]
  simp [hi]
theorem set_rep (i : Nat) (a v : Int) (T : List Int) : (List.replicate i 0 ++ a :: T).set i v = List.replicate i 0 ++ v :: T := by
  rw [List.set_append_right _ _ (by simp)]; simp
theorem getD_rep0 (i : Nat) (a : Int) (T : List Int) : (List.replicate i 0 ++ a :: T).getD i 0 = a := by
  rw [List.getD_eq_getElem?_getD, List.getElem?_append_right (by simp)]; simp
theorem getD_rep1 (i x : Nat) (a : Int) (T : List Int) : (List.replicate i 0 ++ a :: T).getD (i + 1 + x) 0 = T.getD x 0 := by
  rw [List.getD_eq_getElem?_getD, List.getElem?_append_right (by simp; omega), List.length_replicate, show i + 1 + x - i = x + 1 by omega, List.getElem?_cons_succ, List.getD_eq_getElem?_getD]
theorem rep_one (i : Nat) (T : List Int) : List.replicate (i + 1) (0 : Int) ++ T = List.replicate i 0 ++ 0 :: T := by
  rw [List.replicate_succ', List.append_assoc]; rfl

theorem l1Least_rc (m : Mem) (a b : Int) : RC Try.prog 184 [.int .i64 a, .int .i64 b] m fun r new => r = .int .i64 (min a b) ∧ new = [] := by
  refine rc_of_run mixed ok_spec_l1Least (by simp) (go_start _ _ _ ?_)
  by_cases h : a < b
  · simp (config := {implicitDefEqProofs := false, maxDischargeDepth := 20}) (disch := first | omega | (simp only [lenE]; done) | (simp only [lenE]; omega) | rfl | (simp only [lenE, markR_len]; done) | (simp only [lenE, markR_len]; omega)) only [runE, mapE, listE, initT_5, initT_6, initT_7, initT_8, resV, oneV, binA, unA, reduceCtorEq, Nat.reduceEqDiff, Nat.reduceAdd, Nat.reduceLT, Nat.reduceLeDiff, Nat.reduceMul, Nat.reduceSub, ↓reduceIte, decide_true, decide_false, Bool.true_eq_false, Bool.false_eq_true, Bool.not_true, Bool.not_false, if_true, if_false, and_true, true_and, memE, celE, w64, Nat.zero_add, Nat.add_zero, Nat.mul_one, putL, and_self, ldn, c_spec_l1Least, r_spec_l1Least, h]
    exact newQ_nil ⟨by congr 1; omega, rfl⟩
  · simp (config := {implicitDefEqProofs := false, maxDischargeDepth := 20}) (disch := first | omega | (simp only [lenE]; done) | (simp only [lenE]; omega) | rfl | (simp only [lenE, markR_len]; done) | (simp only [lenE, markR_len]; omega)) only [runE, mapE, listE, initT_5, initT_6, initT_7, initT_8, resV, oneV, binA, unA, reduceCtorEq, Nat.reduceEqDiff, Nat.reduceAdd, Nat.reduceLT, Nat.reduceLeDiff, Nat.reduceMul, Nat.reduceSub, ↓reduceIte, decide_true, decide_false, Bool.true_eq_false, Bool.false_eq_true, Bool.not_true, Bool.not_false, if_true, if_false, and_true, true_and, memE, celE, w64, Nat.zero_add, Nat.add_zero, Nat.mul_one, putL, and_self, ldn, c_spec_l1Least, r_spec_l1Least, h]
    exact newQ_nil ⟨by congr 1; omega, rfl⟩

theorem l3Backward_rc (m : Mem) (v : Value) (k : Cs) (h : CaseA m v k) (hg : Good k) :
    RC Try.prog 132 [v] m (AnsR m (bwdL k)) := by
  refine rc_of_run mixed ok_spec_l3Backward (by simp) (go_start _ _ _ ?_)
  obtain ⟨v1, v2, v3, v4, rfl, h1, h2, h3, h4⟩ := h.ro.ok
  have hc : CaseA (roM m) (.agg #[v1, v2, v3, v4]) k := ⟨_, _, _, _, rfl, h1, h2, h3, h4⟩
  have h8 := hg.n8
  unfold bwdL
  generalize hn : k.need.length = n at h8
  have mk : ∀ M : Mem, mksA M 3 8 [.int .i64 0] (.int .i64 ((n : Int) + 1)) (.int .i64 ((n : Int) + 1)) = some (.slice (some ⟨M.length, 0, none⟩) (n + 1) 1, M ++ [⟨.own, 3, List.replicate (n + 1) (.int .i64 0)⟩]) := fun M => mksA_eq (by simp) (by omega)
  have hl1 := h1.len
  rw [hn] at hl1
  simp (config := {implicitDefEqProofs := false, maxDischargeDepth := 20}) (disch := first | omega | (simp only [lenE]; done) | (simp only [lenE]; omega) | rfl | (simp only [lenE, markR_len]; done) | (simp only [lenE, markR_len]; omega)) only [runE, mapE, listE, initT_5, initT_6, initT_7, initT_8, resV, oneV, binA, unA, reduceCtorEq, Nat.reduceEqDiff, Nat.reduceAdd, Nat.reduceLT, Nat.reduceLeDiff, Nat.reduceMul, Nat.reduceSub, ↓reduceIte, decide_true, decide_false, Bool.true_eq_false, Bool.false_eq_true, Bool.not_true, Bool.not_false, if_true, if_false, and_true, true_and, memE, celE, w64, Nat.zero_add, Nat.add_zero, Nat.mul_one, putL, and_self, ldn, c_spec_l3Backward, r_spec_l3Backward, hl1, mk]
  refine loop_inv mixed (fun s => ∃ (r : Nat) (M : Mem) (id : Nat), r ≤ n ∧ s.t 1 = .pointer (some ⟨m.length, 0, none⟩) ∧ s.t 3 = .int .i64 n ∧ s.t 4 = .slice (some ⟨id, 0, none⟩) (n + 1) 1 ∧ s.t 5 = .int .i64 ((n : Int) - 1 - r) ∧ s.m = M ∧ Grow (roM m ++ [⟨.own, 26, [v1, v2, v3, v4]⟩]) M ∧ OwnR M id (List.replicate (n - r) 0 ++ bwdF k n r) ∧ m.length < id) (fun s => (intOf (s.t 5) + 1).toNat)
    ⟨0, _, m.length + 1, by omega, rfl, rfl, rfl, by simp only [put_t, put_t', put_m, putT_t, putT_t', putT_m, init_t, init_m, initT_0, initT_1, initT_2, initT_3, initT_4, initT_5, initT_6, initT_7, initT_8, Nat.reduceEqDiff, ↓reduceIte]; simp, rfl, (Grow.refl _).one _ _, ?_, by omega⟩ ?_
  · have := OwnR.zeros (m := roM m ++ [⟨.own, 26, [v1, v2, v3, v4]⟩]) (n := n + 1) (id := m.length + 1) (by simp [roM_len])
    have e : List.replicate (n - 0) (0 : Int) ++ bwdF k n 0 = List.replicate (n + 1) 0 := by rw [List.replicate_succ']; rfl
    rw [e]; exact this
  rintro s ⟨r, M, id, hr, t1, t3, t4, t5, tm, hx, oa, lid⟩
  obtain ⟨r0, r1, r2, r3, hlM⟩ := hx.box4
  have lM := oa.lt
  by_cases hlt : r < n
  · obtain ⟨i, hi0⟩ : ∃ i : Nat, i + r + 1 = n := ⟨n - 1 - r, by omega⟩
    have hge : (0 : Int) ≤ (n : Int) - 1 - r := by omega
    have ei : (n : Int) - 1 - r = (i : Int) := by omega
    have hge' : (0 : Int) ≤ (i : Int) := by omega
    have hi : i < n + 1 := by omega
    rw [ei] at t5
    rw [show n - r = i + 1 by omega, rep_one] at oa
    have bl := bwdF_len k n r
    have bll : (List.replicate i (0 : Int) ++ 0 :: bwdF k n r).length = n + 1 := by simp [bl]; omega
    simp (config := {implicitDefEqProofs := false, maxDischargeDepth := 20}) (disch := first | omega | (simp only [lenE]; done) | (simp only [lenE]; omega) | rfl | (simp only [lenE, markR_len]; done) | (simp only [lenE, markR_len]; omega)) only [runE, mapE, listE, initT_5, initT_6, initT_7, initT_8, resV, oneV, binA, unA, reduceCtorEq, Nat.reduceEqDiff, Nat.reduceAdd, Nat.reduceLT, Nat.reduceLeDiff, Nat.reduceMul, Nat.reduceSub, ↓reduceIte, decide_true, decide_false, Bool.true_eq_false, Bool.false_eq_true, Bool.not_true, Bool.not_false, if_true, if_false, and_true, true_and, memE, celE, w64, Nat.zero_add, Nat.add_zero, Nat.mul_one, putL, and_self, ldn, t1, t3, t4, t5, tm, ge_iff_le, hge', r0, r1, r2, r3]
    refine callH_rc (l3Span_rc _ _ k i n (hx.caseV hc) hg (by omega) (by omega)) ?_
    rintro rr new ⟨rfl, nr⟩
    have ost := oa.st (off := i) (x := spanF k i n) (by omega)
    rw [set_rep] at ost
    simp (config := {implicitDefEqProofs := false, maxDischargeDepth := 20}) (disch := first | omega | (simp only [lenE]; done) | (simp only [lenE]; omega) | rfl | (simp only [lenE, markR_len]; done) | (simp only [lenE, markR_len]; omega)) only [runE, mapE, listE, initT_5, initT_6, initT_7, initT_8, resV, oneV, binA, unA, reduceCtorEq, Nat.reduceEqDiff, Nat.reduceAdd, Nat.reduceLT, Nat.reduceLeDiff, Nat.reduceMul, Nat.reduceSub, ↓reduceIte, decide_true, decide_false, Bool.true_eq_false, Bool.false_eq_true, Bool.not_true, Bool.not_false, if_true, if_false, and_true, true_and, memE, celE, w64, Nat.zero_add, Nat.add_zero, Nat.mul_one, putL, and_self, ldn, t1, t3, t4, t5, tm, iadA_in hi, ost]
    refine loop_inv mixed (fun s => ∃ (x : Nat) (M' : Mem), x ≤ r ∧ s.t 1 = .pointer (some ⟨m.length, 0, none⟩) ∧ s.t 3 = .int .i64 n ∧ s.t 4 = .slice (some ⟨id, 0, none⟩) (n + 1) 1 ∧ s.t 5 = .int .i64 i ∧ s.t 6 = .int .i64 (i + 1 + x : Nat) ∧ s.m = M' ∧ Grow (roM m ++ [⟨.own, 26, [v1, v2, v3, v4]⟩]) M' ∧ OwnR M' id (List.replicate i 0 ++ bmin k n i (bwdF k n r) x :: bwdF k n r)) (fun s => n - (intOf (s.t 6)).toNat)
      ⟨0, _, by omega, by simp only [put_t, put_t', put_m, putT_t, putT_t', putT_m, init_t, init_m, initT_0, initT_1, initT_2, initT_3, initT_4, initT_5, initT_6, initT_7, initT_8, Nat.reduceEqDiff, ↓reduceIte, t1], by simp only [put_t, put_t', put_m, putT_t, putT_t', putT_m, init_t, init_m, initT_0, initT_1, initT_2, initT_3, initT_4, initT_5, initT_6, initT_7, initT_8, Nat.reduceEqDiff, ↓reduceIte, t3], by simp only [put_t, put_t', put_m, putT_t, putT_t', putT_m, init_t, init_m, initT_0, initT_1, initT_2, initT_3, initT_4, initT_5, initT_6, initT_7, initT_8, Nat.reduceEqDiff, ↓reduceIte, t4], by simp only [put_t, put_t', put_m, putT_t, putT_t', putT_m, init_t, init_m, initT_0, initT_1, initT_2, initT_3, initT_4, initT_5, initT_6, initT_7, initT_8, Nat.reduceEqDiff, ↓reduceIte, t5], by simp only [put_t, put_t', put_m, putT_t, putT_t', putT_m, init_t, init_m, initT_0, initT_1, initT_2, initT_3, initT_4, initT_5, initT_6, initT_7, initT_8, Nat.reduceEqDiff, ↓reduceIte]; simp, rfl, ?_, ?_⟩ ?_
    · exact (hx.put (by simp [roM_len]; omega) _ _).app nr
    · exact (OwnR.set_self oa).ext _
    clear ost
    rintro s2 ⟨x, M', hxr, w1, w3, w4, w5, w6, um, hx', oa'⟩
    obtain ⟨q0, q1, q2, q3, hlM'⟩ := hx'.box4
    have lM' := oa'.lt
    have bl2 : (List.replicate i (0 : Int) ++ bmin k n i (bwdF k n r) x :: bwdF k n r).length = n + 1 := by simp [bl]; omega
    by_cases hlt2 : x < r
    · obtain ⟨j, hj⟩ : ∃ j, j = i + 1 + x := ⟨_, rfl⟩
      have hjn : j < n + 1 := by omega
      have hlt2' : (j : Int) < n := by omega
      rw [← hj] at w6
      have ei : i = n - (r + 1) := by omega
      have b1 := bmin_in hg (n := n) (m := r) (x := x) (by omega) (by omega) (by omega)
      rw [← ei] at b1
      have b2 := getD_bound (m := 13059) (by omega) (bwdF_in hg n r (by omega) (by omega)) x
      have b3 := spanF_in hg (i := i) (j := j) (by omega) (by omega)
      have rdi := oa'.rd (i := i) (by omega)
      have rdj := oa'.rd (i := j) (by omega)
      rw [getD_rep0] at rdi
      rw [hj, getD_rep1, ← hj] at rdj
      simp (config := {implicitDefEqProofs := false, maxDischargeDepth := 20}) (disch := first | omega | (simp only [lenE]; done) | (simp only [lenE]; omega) | rfl | (simp only [lenE, markR_len]; done) | (simp only [lenE, markR_len]; omega)) only [runE, mapE, listE, initT_5, initT_6, initT_7, initT_8, resV, oneV, binA, unA, reduceCtorEq, Nat.reduceEqDiff, Nat.reduceAdd, Nat.reduceLT, Nat.reduceLeDiff, Nat.reduceMul, Nat.reduceSub, ↓reduceIte, decide_true, decide_false, Bool.true_eq_false, Bool.false_eq_true, Bool.not_true, Bool.not_false, if_true, if_false, and_true, true_and, memE, celE, w64, Nat.zero_add, Nat.add_zero, Nat.mul_one, putL, and_self, ldn, w1, w3, w4, w5, w6, um, hlt2', iadA_in hi, iadA_in hjn, rdi, rdj, q0, q1, q2, q3]
      refine rcallH_rc (l3Span_rc _ _ k i j (hx'.caseV hc) hg (by omega) (by omega)) ?_
      rintro rr2 new2 ⟨rfl, nr2⟩
      have ost := oa'.st (off := i) (x := min (bmin k n i (bwdF k n r) x) (spanF k i j + (bwdF k n r).getD x 0)) (by omega)
      rw [set_rep] at ost
      simp (config := {implicitDefEqProofs := false, maxDischargeDepth := 20}) (disch := first | omega | (simp only [lenE]; done) | (simp only [lenE]; omega) | rfl | (simp only [lenE, markR_len]; done) | (simp only [lenE, markR_len]; omega)) only [runE, mapE, listE, initT_5, initT_6, initT_7, initT_8, resV, oneV, binA, unA, reduceCtorEq, Nat.reduceEqDiff, Nat.reduceAdd, Nat.reduceLT, Nat.reduceLeDiff, Nat.reduceMul, Nat.reduceSub, ↓reduceIte, decide_true, decide_false, Bool.true_eq_false, Bool.false_eq_true, Bool.not_true, Bool.not_false, if_true, if_false, and_true, true_and, memE, celE, w64, Nat.zero_add, Nat.add_zero, Nat.mul_one, putL, and_self, ldn, w1, w3, w4, w5, w6, um]
      refine rcallH_rc (l1Least_rc _ _ _) ?_
      rintro r3 new3 ⟨rfl, rfl⟩
      simp (config := {implicitDefEqProofs := false, maxDischargeDepth := 20}) (disch := first | omega | (simp only [lenE]; done) | (simp only [lenE]; omega) | rfl | (simp only [lenE, markR_len]; done) | (simp only [lenE, markR_len]; omega)) only [runE, mapE, listE, initT_5, initT_6, initT_7, initT_8, resV, oneV, binA, unA, reduceCtorEq, Nat.reduceEqDiff, Nat.reduceAdd, Nat.reduceLT, Nat.reduceLeDiff, Nat.reduceMul, Nat.reduceSub, ↓reduceIte, decide_true, decide_false, Bool.true_eq_false, Bool.false_eq_true, Bool.not_true, Bool.not_false, if_true, if_false, and_true, true_and, memE, celE, w64, Nat.zero_add, Nat.add_zero, Nat.mul_one, putL, and_self, ldn, w1, w3, w4, w5, w6, um, iadA_in hi, ost]
      refine ⟨⟨x + 1, _, by omega, by simp; omega, rfl, ?_, ?_⟩, by simp [intOf]; omega⟩
      · exact (hx'.put (by simp [roM_len]; omega) _ _).app nr2
      · rw [bmin, ← hj]
        exact (OwnR.set_self oa').ext _
    · have hxe : x = r := by omega
      subst hxe
      have hlt2' : ¬ (((i + 1 + x : Nat) : Int) < n) := by omega
      simp (config := {implicitDefEqProofs := false, maxDischargeDepth := 20}) (disch := first | omega | (simp only [lenE]; done) | (simp only [lenE]; omega) | rfl | (simp only [lenE, markR_len]; done) | (simp only [lenE, markR_len]; omega)) only [runE, mapE, listE, initT_5, initT_6, initT_7, initT_8, resV, oneV, binA, unA, reduceCtorEq, Nat.reduceEqDiff, Nat.reduceAdd, Nat.reduceLT, Nat.reduceLeDiff, Nat.reduceMul, Nat.reduceSub, ↓reduceIte, decide_true, decide_false, Bool.true_eq_false, Bool.false_eq_true, Bool.not_true, Bool.not_false, if_true, if_false, and_true, true_and, memE, celE, w64, Nat.zero_add, Nat.add_zero, Nat.mul_one, putL, and_self, ldn, w1, w3, w4, w5, w6, um, hlt2']
      refine ⟨⟨x + 1, _, id, by omega, rfl, by congr 1; omega, rfl, hx', ?_, lid⟩, by simp [intOf] <;> omega⟩
      rw [bwdF, show n - (x + 1) = i by omega]
      exact oa'
  · have hre : r = n := by omega
    subst hre
    have hge : ¬ ((0 : Int) ≤ (r : Int) - 1 - r) := by omega
    simp (config := {implicitDefEqProofs := false, maxDischargeDepth := 20}) (disch := first | omega | (simp only [lenE]; done) | (simp only [lenE]; omega) | rfl | (simp only [lenE, markR_len]; done) | (simp only [lenE, markR_len]; omega)) only [runE, mapE, listE, initT_5, initT_6, initT_7, initT_8, resV, oneV, binA, unA, reduceCtorEq, Nat.reduceEqDiff, Nat.reduceAdd, Nat.reduceLT, Nat.reduceLeDiff, Nat.reduceMul, Nat.reduceSub, ↓reduceIte, decide_true, decide_false, Bool.true_eq_false, Bool.false_eq_true, Bool.not_true, Bool.not_false, if_true, if_false, and_true, true_and, memE, celE, w64, Nat.zero_add, Nat.add_zero, Nat.mul_one, putL, and_self, ldn, t1, t3, t4, t5, tm, ge_iff_le, hge]
    have bl := bwdF_len k r r
    rw [show r - r = 0 by omega] at oa
    exact ext_ansR hx.ext oa (by omega) (by simp [bl]) (by simp [bl]; omega)

theorem backwardTable_rc (m : Mem) (v : Value) (k : Cs) (h : CaseA m v k) (hg : Good k) :
    RC Try.prog 131 [v] m (AnsR m (bwdL k)) := by
  refine rc_of_run mixed ok_impl_backwardTable (by simp) (go_start _ _ _ ?_)
  obtain ⟨v1, v2, v3, v4, rfl, h1, h2, h3, h4⟩ := h.ro.ok
  have hc : CaseA (roM m) (.agg #[v1, v2, v3, v4]) k := ⟨_, _, _, _, rfl, h1, h2, h3, h4⟩
  have h8 := hg.n8
  unfold bwdL
  generalize hn : k.need.length = n at h8
  have mk : ∀ M : Mem, mksA M 3 8 [.int .i64 0] (.int .i64 ((n : Int) + 1)) (.int .i64 ((n : Int) + 1)) = some (.slice (some ⟨M.length, 0, none⟩) (n + 1) 1, M ++ [⟨.own, 3, List.replicate (n + 1) (.int .i64 0)⟩]) := fun M => mksA_eq (by simp) (by omega)
  have hl1 := h1.len
  rw [hn] at hl1
  simp (config := {implicitDefEqProofs := false, maxDischargeDepth := 20}) (disch := first | omega | (simp only [lenE]; done) | (simp only [lenE]; omega) | rfl | (simp only [lenE, markR_len]; done) | (simp only [lenE, markR_len]; omega)) only [runE, mapE, listE, initT_5, initT_6, initT_7, initT_8, resV, oneV, binA, unA, reduceCtorEq, Nat.reduceEqDiff, Nat.reduceAdd, Nat.reduceLT, Nat.reduceLeDiff, Nat.reduceMul, Nat.reduceSub, ↓reduceIte, decide_true, decide_false, Bool.true_eq_false, Bool.false_eq_true, Bool.not_true, Bool.not_false, if_true, if_false, and_true, true_and, memE, celE, w64, Nat.zero_add, Nat.add_zero, Nat.mul_one, putL, and_self, ldn, c_impl_backwardTable, r_impl_backwardTable, hl1, mk]
  refine loop_inv mixed (fun s => ∃ (r : Nat) (M : Mem) (id : Nat), r ≤ n ∧ s.t 1 = .pointer (some ⟨m.length, 0, none⟩) ∧ s.t 3 = .int .i64 n ∧ s.t 4 = .slice (some ⟨id, 0, none⟩) (n + 1) 1 ∧ s.t 5 = .int .i64 ((n : Int) - 1 - r) ∧ s.m = M ∧ Grow (roM m ++ [⟨.own, 26, [v1, v2, v3, v4]⟩]) M ∧ OwnR M id (List.replicate (n - r) 0 ++ bwdF k n r) ∧ m.length < id) (fun s => (intOf (s.t 5) + 1).toNat)
    ⟨0, _, m.length + 1, by omega, rfl, rfl, rfl, by simp only [put_t, put_t', put_m, putT_t, putT_t', putT_m, init_t, init_m, initT_0, initT_1, initT_2, initT_3, initT_4, initT_5, initT_6, initT_7, initT_8, Nat.reduceEqDiff, ↓reduceIte]; simp, rfl, (Grow.refl _).one _ _, ?_, by omega⟩ ?_
  · have := OwnR.zeros (m := roM m ++ [⟨.own, 26, [v1, v2, v3, v4]⟩]) (n := n + 1) (id := m.length + 1) (by simp [roM_len])
    have e : List.replicate (n - 0) (0 : Int) ++ bwdF k n 0 = List.replicate (n + 1) 0 := by rw [List.replicate_succ']; rfl
    rw [e]; exact this
  rintro s ⟨r, M, id, hr, t1, t3, t4, t5, tm, hx, oa, lid⟩
  obtain ⟨r0, r1, r2, r3, hlM⟩ := hx.box4
  have lM := oa.lt
  by_cases hlt : r < n
  · obtain ⟨i, hi0⟩ : ∃ i : Nat, i + r + 1 = n := ⟨n - 1 - r, by omega⟩
    have hge : (0 : Int) ≤ (n : Int) - 1 - r := by omega
    have ei : (n : Int) - 1 - r = (i : Int) := by omega
    have hge' : (0 : Int) ≤ (i : Int) := by omega
    have hi : i < n + 1 := by omega
    rw [ei] at t5
    rw [show n - r = i + 1 by omega, rep_one] at oa
    have bl := bwdF_len k n r
    have bll : (List.replicate i (0 : Int) ++ 0 :: bwdF k n r).length = n + 1 := by simp [bl]; omega
    simp (config := {implicitDefEqProofs := false, maxDischargeDepth := 20}) (disch := first | omega | (simp only [lenE]; done) | (simp only [lenE]; omega) | rfl | (simp only [lenE, markR_len]; done) | (simp only [lenE, markR_len]; omega)) only [runE, mapE, listE, initT_5, initT_6, initT_7, initT_8, resV, oneV, binA, unA, reduceCtorEq, Nat.reduceEqDiff, Nat.reduceAdd, Nat.reduceLT, Nat.reduceLeDiff, Nat.reduceMul, Nat.reduceSub, ↓reduceIte, decide_true, decide_false, Bool.true_eq_false, Bool.false_eq_true, Bool.not_true, Bool.not_false, if_true, if_false, and_true, true_and, memE, celE, w64, Nat.zero_add, Nat.add_zero, Nat.mul_one, putL, and_self, ldn, t1, t3, t4, t5, tm, ge_iff_le, hge', r0, r1, r2, r3]
    refine callH_rc (orderCost_rc _ _ k i n (hx.caseV hc) hg (by omega) (by omega)) ?_
    rintro rr new ⟨rfl, nr⟩
    have ost := oa.st (off := i) (x := spanF k i n) (by omega)
    rw [set_rep] at ost
    simp (config := {implicitDefEqProofs := false, maxDischargeDepth := 20}) (disch := first | omega | (simp only [lenE]; done) | (simp only [lenE]; omega) | rfl | (simp only [lenE, markR_len]; done) | (simp only [lenE, markR_len]; omega)) only [runE, mapE, listE, initT_5, initT_6, initT_7, initT_8, resV, oneV, binA, unA, reduceCtorEq, Nat.reduceEqDiff, Nat.reduceAdd, Nat.reduceLT, Nat.reduceLeDiff, Nat.reduceMul, Nat.reduceSub, ↓reduceIte, decide_true, decide_false, Bool.true_eq_false, Bool.false_eq_true, Bool.not_true, Bool.not_false, if_true, if_false, and_true, true_and, memE, celE, w64, Nat.zero_add, Nat.add_zero, Nat.mul_one, putL, and_self, ldn, t1, t3, t4, t5, tm, iadA_in hi, ost]
    refine loop_inv mixed (fun s => ∃ (x : Nat) (M' : Mem), x ≤ r ∧ s.t 1 = .pointer (some ⟨m.length, 0, none⟩) ∧ s.t 3 = .int .i64 n ∧ s.t 4 = .slice (some ⟨id, 0, none⟩) (n + 1) 1 ∧ s.t 5 = .int .i64 i ∧ s.t 6 = .int .i64 (i + 1 + x : Nat) ∧ s.m = M' ∧ Grow (roM m ++ [⟨.own, 26, [v1, v2, v3, v4]⟩]) M' ∧ OwnR M' id (List.replicate i 0 ++ bmin k n i (bwdF k n r) x :: bwdF k n r)) (fun s => n - (intOf (s.t 6)).toNat)
      ⟨0, _, by omega, by simp only [put_t, put_t', put_m, putT_t, putT_t', putT_m, init_t, init_m, initT_0, initT_1, initT_2, initT_3, initT_4, initT_5, initT_6, initT_7, initT_8, Nat.reduceEqDiff, ↓reduceIte, t1], by simp only [put_t, put_t', put_m, putT_t, putT_t', putT_m, init_t, init_m, initT_0, initT_1, initT_2, initT_3, initT_4, initT_5, initT_6, initT_7, initT_8, Nat.reduceEqDiff, ↓reduceIte, t3], by simp only [put_t, put_t', put_m, putT_t, putT_t', putT_m, init_t, init_m, initT_0, initT_1, initT_2, initT_3, initT_4, initT_5, initT_6, initT_7, initT_8, Nat.reduceEqDiff, ↓reduceIte, t4], by simp only [put_t, put_t', put_m, putT_t, putT_t', putT_m, init_t, init_m, initT_0, initT_1, initT_2, initT_3, initT_4, initT_5, initT_6, initT_7, initT_8, Nat.reduceEqDiff, ↓reduceIte, t5], by simp only [put_t, put_t', put_m, putT_t, putT_t', putT_m, init_t, init_m, initT_0, initT_1, initT_2, initT_3, initT_4, initT_5, initT_6, initT_7, initT_8, Nat.reduceEqDiff, ↓reduceIte]; simp, rfl, ?_, ?_⟩ ?_
    · exact (hx.put (by simp [roM_len]; omega) _ _).app nr
    · exact (OwnR.set_self oa).ext _
    clear ost
    rintro s2 ⟨x, M', hxr, w1, w3, w4, w5, w6, um, hx', oa'⟩
    obtain ⟨q0, q1, q2, q3, hlM'⟩ := hx'.box4
    have lM' := oa'.lt
    have bl2 : (List.replicate i (0 : Int) ++ bmin k n i (bwdF k n r) x :: bwdF k n r).length = n + 1 := by simp [bl]; omega
    by_cases hlt2 : x < r
    · obtain ⟨j, hj⟩ : ∃ j, j = i + 1 + x := ⟨_, rfl⟩
      have hjn : j < n + 1 := by omega
      have hlt2' : (j : Int) < n := by omega
      rw [← hj] at w6
      have ei : i = n - (r + 1) := by omega
      have b1 := bmin_in hg (n := n) (m := r) (x := x) (by omega) (by omega) (by omega)
      rw [← ei] at b1
      have b2 := getD_bound (m := 13059) (by omega) (bwdF_in hg n r (by omega) (by omega)) x
      have b3 := spanF_in hg (i := i) (j := j) (by omega) (by omega)
      have rdi := oa'.rd (i := i) (by omega)
      have rdj := oa'.rd (i := j) (by omega)
      rw [getD_rep0] at rdi
      rw [hj, getD_rep1, ← hj] at rdj
      simp (config := {implicitDefEqProofs := false, maxDischargeDepth := 20}) (disch := first | omega | (simp only [lenE]; done) | (simp only [lenE]; omega) | rfl | (simp only [lenE, markR_len]; done) | (simp only [lenE, markR_len]; omega)) only [runE, mapE, listE, initT_5, initT_6, initT_7, initT_8, resV, oneV, binA, unA, reduceCtorEq, Nat.reduceEqDiff, Nat.reduceAdd, Nat.reduceLT, Nat.reduceLeDiff, Nat.reduceMul, Nat.reduceSub, ↓reduceIte, decide_true, decide_false, Bool.true_eq_false, Bool.false_eq_true, Bool.not_true, Bool.not_false, if_true, if_false, and_true, true_and, memE, celE, w64, Nat.zero_add, Nat.add_zero, Nat.mul_one, putL, and_self, ldn, w1, w3, w4, w5, w6, um, hlt2', iadA_in hi, iadA_in hjn, rdi, rdj, q0, q1, q2, q3]
      refine rcallH_rc (orderCost_rc _ _ k i j (hx'.caseV hc) hg (by omega) (by omega)) ?_
      rintro rr2 new2 ⟨rfl, nr2⟩
      have ost := oa'.st (off := i) (x := min (bmin k n i (bwdF k n r) x) (spanF k i j + (bwdF k n r).getD x 0)) (by omega)
      rw [set_rep] at ost
      simp (config := {implicitDefEqProofs := false, maxDischargeDepth := 20}) (disch := first | omega | (simp only [lenE]; done) | (simp only [lenE]; omega) | rfl | (simp only [lenE, markR_len]; done) | (simp only [lenE, markR_len]; omega)) only [runE, mapE, listE, initT_5, initT_6, initT_7, initT_8, resV, oneV, binA, unA, reduceCtorEq, Nat.reduceEqDiff, Nat.reduceAdd, Nat.reduceLT, Nat.reduceLeDiff, Nat.reduceMul, Nat.reduceSub, ↓reduceIte, decide_true, decide_false, Bool.true_eq_false, Bool.false_eq_true, Bool.not_true, Bool.not_false, if_true, if_false, and_true, true_and, memE, celE, w64, Nat.zero_add, Nat.add_zero, Nat.mul_one, putL, and_self, ldn, w1, w3, w4, w5, w6, um, iadA_in hi, ost]
      refine ⟨⟨x + 1, _, by omega, by simp; omega, rfl, ?_, ?_⟩, by simp [intOf]; omega⟩
      · exact (hx'.put (by simp [roM_len]; omega) _ _).app nr2
      · rw [bmin, ← hj]
        exact (OwnR.set_self oa').ext _
    · have hxe : x = r := by omega
      subst hxe
      have hlt2' : ¬ (((i + 1 + x : Nat) : Int) < n) := by omega
      simp (config := {implicitDefEqProofs := false, maxDischargeDepth := 20}) (disch := first | omega | (simp only [lenE]; done) | (simp only [lenE]; omega) | rfl | (simp only [lenE, markR_len]; done) | (simp only [lenE, markR_len]; omega)) only [runE, mapE, listE, initT_5, initT_6, initT_7, initT_8, resV, oneV, binA, unA, reduceCtorEq, Nat.reduceEqDiff, Nat.reduceAdd, Nat.reduceLT, Nat.reduceLeDiff, Nat.reduceMul, Nat.reduceSub, ↓reduceIte, decide_true, decide_false, Bool.true_eq_false, Bool.false_eq_true, Bool.not_true, Bool.not_false, if_true, if_false, and_true, true_and, memE, celE, w64, Nat.zero_add, Nat.add_zero, Nat.mul_one, putL, and_self, ldn, w1, w3, w4, w5, w6, um, hlt2']
      refine ⟨⟨x + 1, _, id, by omega, rfl, by congr 1; omega, rfl, hx', ?_, lid⟩, by simp [intOf] <;> omega⟩
      rw [bwdF, show n - (x + 1) = i by omega]
      exact oa'
  · have hre : r = n := by omega
    subst hre
    have hge : ¬ ((0 : Int) ≤ (r : Int) - 1 - r) := by omega
    simp (config := {implicitDefEqProofs := false, maxDischargeDepth := 20}) (disch := first | omega | (simp only [lenE]; done) | (simp only [lenE]; omega) | rfl | (simp only [lenE, markR_len]; done) | (simp only [lenE, markR_len]; omega)) only [runE, mapE, listE, initT_5, initT_6, initT_7, initT_8, resV, oneV, binA, unA, reduceCtorEq, Nat.reduceEqDiff, Nat.reduceAdd, Nat.reduceLT, Nat.reduceLeDiff, Nat.reduceMul, Nat.reduceSub, ↓reduceIte, decide_true, decide_false, Bool.true_eq_false, Bool.false_eq_true, Bool.not_true, Bool.not_false, if_true, if_false, and_true, true_and, memE, celE, w64, Nat.zero_add, Nat.add_zero, Nat.mul_one, putL, and_self, ldn, t1, t3, t4, t5, tm, ge_iff_le, hge]
    have bl := bwdF_len k r r
    rw [show r - r = 0 by omega] at oa
    exact ext_ansR hx.ext oa (by omega) (by simp [bl]) (by simp [bl]; omega)

def backA (k : Cs) : List Int := if k.good then bwdL k else []
theorem backA_no {k : Cs} (h : k.good = false) : backA k = [] := by unfold backA; rw [h]; rfl
theorem backA_yes {k : Cs} (h : k.good = true) : backA k = bwdL k := by unfold backA; rw [h]; rfl
theorem specBack_rc (m : Mem) (v : Value) (k : Cs) (h : CaseA m v k) : RC Try.prog 18 [v] m (AnsL m (backA k) k.good) := by
  refine rc_of_run mixed ok_spec_BackwardCosts (by simp) (go_start _ _ _ ?_)
  obtain ⟨v1, v2, v3, v4, rfl, h1, h2, h3, h4⟩ := h.ro.ok
  have hc : CaseA (roM m) (.agg #[v1, v2, v3, v4]) k := ⟨_, _, _, _, rfl, h1, h2, h3, h4⟩
  simp (config := {implicitDefEqProofs := false, maxDischargeDepth := 20}) (disch := first | omega | (simp only [lenE]; done) | (simp only [lenE]; omega) | rfl | (simp only [lenE, markR_len]; done) | (simp only [lenE, markR_len]; omega)) only [runE, mapE, listE, initT_5, initT_6, initT_7, initT_8, resV, oneV, binA, unA, reduceCtorEq, Nat.reduceEqDiff, Nat.reduceAdd, Nat.reduceLT, Nat.reduceLeDiff, Nat.reduceMul, Nat.reduceSub, ↓reduceIte, decide_true, decide_false, Bool.true_eq_false, Bool.false_eq_true, Bool.not_true, Bool.not_false, if_true, if_false, and_true, true_and, memE, celE, w64, Nat.zero_add, Nat.add_zero, Nat.mul_one, putL, and_self, ldn, c_spec_BackwardCosts, r_spec_BackwardCosts]
  refine callH_rc (l2Good_rc _ _ k (hc.ext _)) ?_
  rintro r new ⟨rfl, nr1⟩
  have hx : Grow (roM m ++ [⟨.own, 26, [v1, v2, v3, v4]⟩]) (roM m ++ [⟨.own, 26, [v1, v2, v3, v4]⟩] ++ new) := (Grow.refl _).app nr1
  cases hg : k.good with
  | false =>
    simp (config := {implicitDefEqProofs := false, maxDischargeDepth := 20}) (disch := first | omega | (simp only [lenE]; done) | (simp only [lenE]; omega) | rfl | (simp only [lenE, markR_len]; done) | (simp only [lenE, markR_len]; omega)) only [runE, mapE, listE, initT_5, initT_6, initT_7, initT_8, resV, oneV, binA, unA, reduceCtorEq, Nat.reduceEqDiff, Nat.reduceAdd, Nat.reduceLT, Nat.reduceLeDiff, Nat.reduceMul, Nat.reduceSub, ↓reduceIte, decide_true, decide_false, Bool.true_eq_false, Bool.false_eq_true, Bool.not_true, Bool.not_false, if_true, if_false, and_true, true_and, memE, celE, w64, Nat.zero_add, Nat.add_zero, Nat.mul_one, putL, and_self, ldn, bsl_none]
    rw [backA_no hg]
    refine ext_ansL (hx.ext.one _ _) (OwnR.end' (l := []) ?_) (by omega) rfl (by simp)
    simp only [List.length_append, List.length_cons, List.length_nil, roM_len]
  | true =>
    have gd := good_iff.1 hg
    have h8 := gd.n8
    rw [backA_yes hg]
    simp (config := {implicitDefEqProofs := false, maxDischargeDepth := 20}) (disch := first | omega | (simp only [lenE]; done) | (simp only [lenE]; omega) | rfl | (simp only [lenE, markR_len]; done) | (simp only [lenE, markR_len]; omega)) only [runE, mapE, listE, initT_5, initT_6, initT_7, initT_8, resV, oneV, binA, unA, reduceCtorEq, Nat.reduceEqDiff, Nat.reduceAdd, Nat.reduceLT, Nat.reduceLeDiff, Nat.reduceMul, Nat.reduceSub, ↓reduceIte, decide_true, decide_false, Bool.true_eq_false, Bool.false_eq_true, Bool.not_true, Bool.not_false, if_true, if_false, and_true, true_and, memE, celE, w64, Nat.zero_add, Nat.add_zero, Nat.mul_one, putL, and_self, ldn]
    refine callH_rc (l3Backward_rc _ _ k (hx.caseV hc) gd) ?_
    intro r new2 hA
    obtain ⟨id2, fl2, rfl, hge2, hown2, hle2, nr2⟩ := hA.row
    have hx2 := hx.app nr2
    simp only [List.length_append, List.length_cons, List.length_nil, roM_len] at hge2
    simp (config := {implicitDefEqProofs := false, maxDischargeDepth := 20}) (disch := first | omega | (simp only [lenE]; done) | (simp only [lenE]; omega) | rfl | (simp only [lenE, markR_len]; done) | (simp only [lenE, markR_len]; omega)) only [runE, mapE, listE, initT_5, initT_6, initT_7, initT_8, resV, oneV, binA, unA, reduceCtorEq, Nat.reduceEqDiff, Nat.reduceAdd, Nat.reduceLT, Nat.reduceLeDiff, Nat.reduceMul, Nat.reduceSub, ↓reduceIte, decide_true, decide_false, Bool.true_eq_false, Bool.false_eq_true, Bool.not_true, Bool.not_false, if_true, if_false, and_true, true_and, memE, celE, w64, Nat.zero_add, Nat.add_zero, Nat.mul_one, putL, and_self, ldn]
    exact ext_ansL hx2.ext hown2 (by omega) rfl (by omega)

theorem implBack_rc (m : Mem) (v : Value) (k : Cs) (h : CaseA m v k) : RC Try.prog 17 [v] m (AnsL m (backA k) k.good) := by
  refine rc_of_run mixed ok_impl_BackwardCosts (by simp) (go_start _ _ _ ?_)
  obtain ⟨v1, v2, v3, v4, rfl, h1, h2, h3, h4⟩ := h.ro.ok
  have hc : CaseA (roM m) (.agg #[v1, v2, v3, v4]) k := ⟨_, _, _, _, rfl, h1, h2, h3, h4⟩
  simp (config := {implicitDefEqProofs := false, maxDischargeDepth := 20}) (disch := first | omega | (simp only [lenE]; done) | (simp only [lenE]; omega) | rfl | (simp only [lenE, markR_len]; done) | (simp only [lenE, markR_len]; omega)) only [runE, mapE, listE, initT_5, initT_6, initT_7, initT_8, resV, oneV, binA, unA, reduceCtorEq, Nat.reduceEqDiff, Nat.reduceAdd, Nat.reduceLT, Nat.reduceLeDiff, Nat.reduceMul, Nat.reduceSub, ↓reduceIte, decide_true, decide_false, Bool.true_eq_false, Bool.false_eq_true, Bool.not_true, Bool.not_false, if_true, if_false, and_true, true_and, memE, celE, w64, Nat.zero_add, Nat.add_zero, Nat.mul_one, putL, and_self, ldn, c_impl_BackwardCosts, r_impl_BackwardCosts]
  refine callH_rc (implIsCase_rc _ _ k (hc.ext _)) ?_
  rintro r new ⟨rfl, nr1⟩
  have hx : Grow (roM m ++ [⟨.own, 26, [v1, v2, v3, v4]⟩]) (roM m ++ [⟨.own, 26, [v1, v2, v3, v4]⟩] ++ new) := (Grow.refl _).app nr1
  cases hg : k.good with
  | false =>
    simp (config := {implicitDefEqProofs := false, maxDischargeDepth := 20}) (disch := first | omega | (simp only [lenE]; done) | (simp only [lenE]; omega) | rfl | (simp only [lenE, markR_len]; done) | (simp only [lenE, markR_len]; omega)) only [runE, mapE, listE, initT_5, initT_6, initT_7, initT_8, resV, oneV, binA, unA, reduceCtorEq, Nat.reduceEqDiff, Nat.reduceAdd, Nat.reduceLT, Nat.reduceLeDiff, Nat.reduceMul, Nat.reduceSub, ↓reduceIte, decide_true, decide_false, Bool.true_eq_false, Bool.false_eq_true, Bool.not_true, Bool.not_false, if_true, if_false, and_true, true_and, memE, celE, w64, Nat.zero_add, Nat.add_zero, Nat.mul_one, putL, and_self, ldn, bsl_none]
    rw [backA_no hg]
    refine ext_ansL (hx.ext.one _ _) (OwnR.end' (l := []) ?_) (by omega) rfl (by simp)
    simp only [List.length_append, List.length_cons, List.length_nil, roM_len]
  | true =>
    have gd := good_iff.1 hg
    have h8 := gd.n8
    rw [backA_yes hg]
    simp (config := {implicitDefEqProofs := false, maxDischargeDepth := 20}) (disch := first | omega | (simp only [lenE]; done) | (simp only [lenE]; omega) | rfl | (simp only [lenE, markR_len]; done) | (simp only [lenE, markR_len]; omega)) only [runE, mapE, listE, initT_5, initT_6, initT_7, initT_8, resV, oneV, binA, unA, reduceCtorEq, Nat.reduceEqDiff, Nat.reduceAdd, Nat.reduceLT, Nat.reduceLeDiff, Nat.reduceMul, Nat.reduceSub, ↓reduceIte, decide_true, decide_false, Bool.true_eq_false, Bool.false_eq_true, Bool.not_true, Bool.not_false, if_true, if_false, and_true, true_and, memE, celE, w64, Nat.zero_add, Nat.add_zero, Nat.mul_one, putL, and_self, ldn]
    refine callH_rc (backwardTable_rc _ _ k (hx.caseV hc) gd) ?_
    intro r new2 hA
    obtain ⟨id2, fl2, rfl, hge2, hown2, hle2, nr2⟩ := hA.row
    have hx2 := hx.app nr2
    simp only [List.length_append, List.length_cons, List.length_nil, roM_len] at hge2
    simp (config := {implicitDefEqProofs := false, maxDischargeDepth := 20}) (disch := first | omega | (simp only [lenE]; done) | (simp only [lenE]; omega) | rfl | (simp only [lenE, markR_len]; done) | (simp only [lenE, markR_len]; omega)) only [runE, mapE, listE, initT_5, initT_6, initT_7, initT_8, resV, oneV, binA, unA, reduceCtorEq, Nat.reduceEqDiff, Nat.reduceAdd, Nat.reduceLT, Nat.reduceLeDiff, Nat.reduceMul, Nat.reduceSub, ↓reduceIte, decide_true, decide_false, Bool.true_eq_false, Bool.false_eq_true, Bool.not_true, Bool.not_false, if_true, if_false, and_true, true_and, memE, celE, w64, Nat.zero_add, Nat.add_zero, Nat.mul_one, putL, and_self, ldn]
    exact ext_ansL hx2.ext hown2 (by omega) rfl (by omega)

end Go.Proofs.Ytncajinepljdhaa.Ab
end
section
namespace Go.Proofs.Ytncajinepljdhaa.Ab
open Go Go.RowKit
set_option linter.unusedVariables false
set_option linter.unusedSimpArgs false
theorem test_turn (m : Mem) (id : Nat) (x0 : Int) (h : rdc m id 0 = some (.int .i64 x0)) :
    TestA m (.func (.func 134) #[] #[.pointer (some ⟨id, 0, none⟩)]) (fun x => x == x0) := by
  refine ⟨_, _, rfl, fun x m' hm => ?_⟩
  refine rc_of_run mixed ok_impl_TurningPeriods_1 (by simp) (go_start _ _ _ ?_)
  have h' : rdc (roM m') id 0 = some (.int .i64 x0) := by rw [rdc_roM]; exact hm _ _ _ h
  simp (config := {implicitDefEqProofs := false, maxDischargeDepth := 20}) (disch := first | omega | (simp only [lenE]; done) | (simp only [lenE]; omega) | rfl | (simp only [lenE, markR_len]; done) | (simp only [lenE, markR_len]; omega)) only [runE, mapE, listE, initT_5, initT_6, initT_7, initT_8, resV, oneV, binA, unA, reduceCtorEq, Nat.reduceEqDiff, Nat.reduceAdd, Nat.reduceLT, Nat.reduceLeDiff, Nat.reduceMul, Nat.reduceSub, ↓reduceIte, decide_true, decide_false, Bool.true_eq_false, Bool.false_eq_true, Bool.not_true, Bool.not_false, if_true, if_false, and_true, true_and, memE, celE, w64, Nat.zero_add, Nat.add_zero, Nat.mul_one, putL, and_self, ldn, c_impl_TurningPeriods_1, r_impl_TurningPeriods_1, h']
  exact newQ_nil ⟨rfl, rfl⟩
theorem picks_turn {k : Cs} {f : Int → Bool} {L : List Int} (t : Nat) (h : ∀ i, i < t → f (L.getD i 0) = turnAt k i) : picks f L t = turnP k t := by
  induction t with
  | zero => rfl
  | succ t ih => rw [picks, turnP, ih (fun i hi => h i (by omega)), h t (by omega)]
theorem turnP_s (k : Cs) (t : Nat) : turnP k (t + 1) = if turnAt k t then turnP k t ++ [(t : Int)] else turnP k t := rfl
def turnA (k : Cs) : List Int := if k.good then turnP k (k.need.length + 1) else []
theorem turnA_no {k : Cs} (h : k.good = false) : turnA k = [] := by unfold turnA; rw [h]; rfl
theorem turnA_yes {k : Cs} (h : k.good = true) : turnA k = turnP k (k.need.length + 1) := by unfold turnA; rw [h]; rfl
theorem bwdL_in {k : Cs} (hg : Good k) : ∀ x ∈ bwdL k, 0 ≤ x ∧ x ≤ 13059 := bwdF_in hg _ _ (Nat.le_refl _) hg.n8
theorem bwdL_len (k : Cs) : (bwdL k).length = k.need.length + 1 := bwdF_len _ _ _

theorem specTurn_rc (m : Mem) (v : Value) (k : Cs) (h : CaseA m v k) : RC Try.prog 20 [v] m (AnsL m (turnA k) k.good) := by
  refine rc_of_run mixed ok_spec_TurningPeriods (by simp) (go_start _ _ _ ?_)
  obtain ⟨v1, v2, v3, v4, rfl, h1, h2, h3, h4⟩ := h.ro.ok
  have hc : CaseA (roM m) (.agg #[v1, v2, v3, v4]) k := ⟨_, _, _, _, rfl, h1, h2, h3, h4⟩
  simp (config := {implicitDefEqProofs := false, maxDischargeDepth := 20}) (disch := first | omega | (simp only [lenE]; done) | (simp only [lenE]; omega) | rfl | (simp only [lenE, markR_len]; done) | (simp only [lenE, markR_len]; omega)) only [runE, mapE, listE, initT_5, initT_6, initT_7, initT_8, resV, oneV, binA, unA, reduceCtorEq, Nat.reduceEqDiff, Nat.reduceAdd, Nat.reduceLT, Nat.reduceLeDiff, Nat.reduceMul, Nat.reduceSub, ↓reduceIte, decide_true, decide_false, Bool.true_eq_false, Bool.false_eq_true, Bool.not_true, Bool.not_false, if_true, if_false, and_true, true_and, memE, celE, w64, Nat.zero_add, Nat.add_zero, Nat.mul_one, putL, and_self, ldn, c_spec_TurningPeriods, r_spec_TurningPeriods, bsl_none]
  refine callH_rc (l2Good_rc _ _ k ((hc.ext _).ext _)) ?_
  rintro r new ⟨rfl, nr1⟩
  have o0 : OwnR (roM m ++ [⟨.own, 26, [v1, v2, v3, v4]⟩] ++ [⟨.own, 3, []⟩] ++ new) (m.length + 1) [] := (OwnR.end' (l := []) (by simp [roM_len])).ext _
  have hx : Grow (roM m ++ [⟨.own, 26, [v1, v2, v3, v4]⟩]) (roM m ++ [⟨.own, 26, [v1, v2, v3, v4]⟩] ++ [⟨.own, 3, []⟩] ++ new) := ((Grow.refl _).one _ _).app nr1
  cases hg : k.good with
  | false =>
    simp (config := {implicitDefEqProofs := false, maxDischargeDepth := 20}) (disch := first | omega | (simp only [lenE]; done) | (simp only [lenE]; omega) | rfl | (simp only [lenE, markR_len]; done) | (simp only [lenE, markR_len]; omega)) only [runE, mapE, listE, initT_5, initT_6, initT_7, initT_8, resV, oneV, binA, unA, reduceCtorEq, Nat.reduceEqDiff, Nat.reduceAdd, Nat.reduceLT, Nat.reduceLeDiff, Nat.reduceMul, Nat.reduceSub, ↓reduceIte, decide_true, decide_false, Bool.true_eq_false, Bool.false_eq_true, Bool.not_true, Bool.not_false, if_true, if_false, and_true, true_and, memE, celE, w64, Nat.zero_add, Nat.add_zero, Nat.mul_one, putL, and_self, ldn, bsl_none]
    rw [turnA_no hg]
    exact ext_ansL hx.ext o0 (by omega) rfl (by simp)
  | true =>
    have gd := good_iff.1 hg
    have h8 := gd.n8
    rw [turnA_yes hg]
    simp (config := {implicitDefEqProofs := false, maxDischargeDepth := 20}) (disch := first | omega | (simp only [lenE]; done) | (simp only [lenE]; omega) | rfl | (simp only [lenE, markR_len]; done) | (simp only [lenE, markR_len]; omega)) only [runE, mapE, listE, initT_5, initT_6, initT_7, initT_8, resV, oneV, binA, unA, reduceCtorEq, Nat.reduceEqDiff, Nat.reduceAdd, Nat.reduceLT, Nat.reduceLeDiff, Nat.reduceMul, Nat.reduceSub, ↓reduceIte, decide_true, decide_false, Bool.true_eq_false, Bool.false_eq_true, Bool.not_true, Bool.not_false, if_true, if_false, and_true, true_and, memE, celE, w64, Nat.zero_add, Nat.add_zero, Nat.mul_one, putL, and_self, ldn]
    refine callH_rc (l3Forward_rc _ _ k (hx.caseV hc) gd) ?_
    intro r new2 hA
    obtain ⟨d1, d2, f1, f2, rfl, l1, l2, o1, o2, nr2⟩ := hA.rows
    have hx2 := hx.app nr2
    have o02 := o0.ext new2
    simp only [List.length_append, List.length_cons, List.length_nil, roM_len] at l1 l2
    simp (config := {implicitDefEqProofs := false, maxDischargeDepth := 20}) (disch := first | omega | (simp only [lenE]; done) | (simp only [lenE]; omega) | rfl | (simp only [lenE, markR_len]; done) | (simp only [lenE, markR_len]; omega)) only [runE, mapE, listE, initT_5, initT_6, initT_7, initT_8, resV, oneV, binA, unA, reduceCtorEq, Nat.reduceEqDiff, Nat.reduceAdd, Nat.reduceLT, Nat.reduceLeDiff, Nat.reduceMul, Nat.reduceSub, ↓reduceIte, decide_true, decide_false, Bool.true_eq_false, Bool.false_eq_true, Bool.not_true, Bool.not_false, if_true, if_false, and_true, true_and, memE, celE, w64, Nat.zero_add, Nat.add_zero, Nat.mul_one, putL, and_self, ldn, ext_2_0, ext_2_1]
    refine callH_rc (l3Backward_rc _ _ k (hx2.caseV hc) gd) ?_
    intro r new3 hB
    obtain ⟨d3, f3, rfl, l3, o3, -, nr3⟩ := hB.row
    have hx3 := hx2.app nr3
    have o03 := o02.ext new3
    have o13 := o1.ext new3
    simp only [List.length_append, List.length_cons, List.length_nil, roM_len] at l3
    have ll := fwdC_len k k.need.length
    have lb := bwdL_len k
    have hle := fun t => turnP_len k t
    have bf := fwdC_in gd k.need.length h8
    have bb := bwdL_in gd
    have tat : ∀ t, turnAt k t = ((fwdC k k.need.length).getD t 0 + (bwdL k).getD t 0 == (bwdL k).getD 0 0) := fun _ => rfl
    generalize fwdC k k.need.length = ls at *
    generalize bwdL k = lk at *
    obtain ⟨M0, hM0⟩ : ∃ M0, M0 = roM m ++ [⟨.own, 26, [v1, v2, v3, v4]⟩] ++ [⟨.own, 3, []⟩] ++ new ++ new2 ++ new3 := ⟨_, rfl⟩
    simp (config := {implicitDefEqProofs := false, maxDischargeDepth := 20}) (disch := first | omega | (simp only [lenE]; done) | (simp only [lenE]; omega) | rfl | (simp only [lenE, markR_len]; done) | (simp only [lenE, markR_len]; omega)) only [runE, mapE, listE, initT_5, initT_6, initT_7, initT_8, resV, oneV, binA, unA, reduceCtorEq, Nat.reduceEqDiff, Nat.reduceAdd, Nat.reduceLT, Nat.reduceLeDiff, Nat.reduceMul, Nat.reduceSub, ↓reduceIte, decide_true, decide_false, Bool.true_eq_false, Bool.false_eq_true, Bool.not_true, Bool.not_false, if_true, if_false, and_true, true_and, memE, celE, w64, Nat.zero_add, Nat.add_zero, Nat.mul_one, putL, and_self, ldn]
    rw [← hM0] at hx3 o03 o13 o3 ⊢
    refine loop_inv mixed (fun s => ∃ (t : Nat) (M : Mem) (id : Nat), t ≤ k.need.length + 1 ∧ s.t 4 = .slice (some ⟨id, 0, none⟩) (turnP k t).length 1 ∧ s.t 5 = .slice (some ⟨d1, 0, none⟩) ls.length f1 ∧ s.t 7 = .slice (some ⟨d3, 0, none⟩) lk.length f3 ∧ s.t 8 = .int .i64 t ∧ s.m = M ∧ Grow (roM m ++ [⟨.own, 26, [v1, v2, v3, v4]⟩]) M ∧ OwnR M id (turnP k t) ∧ OwnR M d1 ls ∧ OwnR M d3 lk ∧ id ≠ d1 ∧ id ≠ d3 ∧ m.length < id) (fun s => k.need.length + 1 - (intOf (s.t 8)).toNat)
      ⟨0, M0, m.length + 1, by omega, rfl, rfl, rfl, rfl, rfl, hx3, o03, o13, o3, by omega, by omega, by omega⟩ ?_
    rintro s ⟨t, M, id, hk, t4, t5, t7, t8, tm, hxM, oh, oa, ob, ne1, ne3, lid⟩
    have ia := oa.ints (by omega) f1
    have ib := ob.ints (by omega) f3
    by_cases hlt : t < k.need.length + 1
    · have hlt' : (t : Int) < ls.length := by omega
      have a0 : iadA 1 (.slice (some ⟨d3, 0, none⟩) lk.length f3) (.int .i64 0) = some (pAt (.slice (some ⟨d3, 0, none⟩) lk.length f3) 0) := ib.at_ 0 (by omega)
      have hlt2 := hle t
      have b1 := getD_bound (by omega) bf t
      have b2 := getD_bound (by omega) bb t
      have ap := fun id2 n => app_genH (M := M) (x := (t : Int)) (id2 := id2) (n := n) oh (by omega)
      cases hat : turnAt k t with
      | true =>
        have hat' := hat
        rw [tat] at hat'
        simp (config := {implicitDefEqProofs := false, maxDischargeDepth := 20}) (disch := first | omega | (simp only [lenE]; done) | (simp only [lenE]; omega) | rfl | (simp only [lenE, markR_len]; done) | (simp only [lenE, markR_len]; omega)) only [runE, mapE, listE, initT_5, initT_6, initT_7, initT_8, resV, oneV, binA, unA, reduceCtorEq, Nat.reduceEqDiff, Nat.reduceAdd, Nat.reduceLT, Nat.reduceLeDiff, Nat.reduceMul, Nat.reduceSub, ↓reduceIte, decide_true, decide_false, Bool.true_eq_false, Bool.false_eq_true, Bool.not_true, Bool.not_false, if_true, if_false, and_true, true_and, memE, celE, w64, Nat.zero_add, Nat.add_zero, Nat.mul_one, putL, and_self, ldn, t4, t5, t7, t8, tm, hlt', ia.at_ t (by omega), ia.ld t (by omega), ib.at_ t (by omega), ib.ld t (by omega), a0, ib.ld 0 (by omega), hat', bsl_one, ap]
        refine ⟨⟨t + 1, _, M.length + 1, by omega, by rw [turnP_s, if_pos hat, List.length_append]; rfl, by simp, rfl, ((hxM.dead ?_).one _ _).one _ _, ?_, ((oa.dead ne1).ext _).ext _, ((ob.dead ne3).ext _).ext _, ?_, ?_, ?_⟩, by simp [intOf]; omega⟩
        · simp [roM_len]; omega
        · rw [turnP_s, if_pos hat]
          exact OwnR.end' (l := turnP k t ++ [(t : Int)]) (by simp)
        · have := oa.lt; omega
        · have := ob.lt; omega
        · have := oh.lt; omega
      | false =>
        have hat' := hat
        rw [tat] at hat'
        simp (config := {implicitDefEqProofs := false, maxDischargeDepth := 20}) (disch := first | omega | (simp only [lenE]; done) | (simp only [lenE]; omega) | rfl | (simp only [lenE, markR_len]; done) | (simp only [lenE, markR_len]; omega)) only [runE, mapE, listE, initT_5, initT_6, initT_7, initT_8, resV, oneV, binA, unA, reduceCtorEq, Nat.reduceEqDiff, Nat.reduceAdd, Nat.reduceLT, Nat.reduceLeDiff, Nat.reduceMul, Nat.reduceSub, ↓reduceIte, decide_true, decide_false, Bool.true_eq_false, Bool.false_eq_true, Bool.not_true, Bool.not_false, if_true, if_false, and_true, true_and, memE, celE, w64, Nat.zero_add, Nat.add_zero, Nat.mul_one, putL, and_self, ldn, t4, t5, t7, t8, tm, hlt', ia.at_ t (by omega), ia.ld t (by omega), ib.at_ t (by omega), ib.ld t (by omega), a0, ib.ld 0 (by omega), hat']
        exact ⟨⟨t + 1, _, id, by omega, by rw [turnP_s, hat]; rfl, by simp, rfl, hxM, by rw [turnP_s, hat]; exact oh, oa, ob, ne1, ne3, lid⟩, by simp [intOf]; omega⟩
    · have hlt' : ¬ ((t : Int) < ls.length) := by omega
      have e : t = k.need.length + 1 := by omega
      subst e
      have := hle (k.need.length + 1)
      simp (config := {implicitDefEqProofs := false, maxDischargeDepth := 20}) (disch := first | omega | (simp only [lenE]; done) | (simp only [lenE]; omega) | rfl | (simp only [lenE, markR_len]; done) | (simp only [lenE, markR_len]; omega)) only [runE, mapE, listE, initT_5, initT_6, initT_7, initT_8, resV, oneV, binA, unA, reduceCtorEq, Nat.reduceEqDiff, Nat.reduceAdd, Nat.reduceLT, Nat.reduceLeDiff, Nat.reduceMul, Nat.reduceSub, ↓reduceIte, decide_true, decide_false, Bool.true_eq_false, Bool.false_eq_true, Bool.not_true, Bool.not_false, if_true, if_false, and_true, true_and, memE, celE, w64, Nat.zero_add, Nat.add_zero, Nat.mul_one, putL, and_self, ldn, t4, t5, t7, t8, tm, hlt']
      exact ext_ansL hxM.ext oh (by omega) rfl (by omega)

theorem implTurn_rc (m : Mem) (v : Value) (k : Cs) (h : CaseA m v k) : RC Try.prog 19 [v] m (AnsL m (turnA k) k.good) := by
  refine rc_of_run mixed ok_impl_TurningPeriods (by simp) (go_start _ _ _ ?_)
  obtain ⟨v1, v2, v3, v4, rfl, h1, h2, h3, h4⟩ := h.ro.ok
  have hc : CaseA (roM m) (.agg #[v1, v2, v3, v4]) k := ⟨_, _, _, _, rfl, h1, h2, h3, h4⟩
  simp (config := {implicitDefEqProofs := false, maxDischargeDepth := 20}) (disch := first | omega | (simp only [lenE]; done) | (simp only [lenE]; omega) | rfl | (simp only [lenE, markR_len]; done) | (simp only [lenE, markR_len]; omega)) only [runE, mapE, listE, initT_5, initT_6, initT_7, initT_8, resV, oneV, binA, unA, reduceCtorEq, Nat.reduceEqDiff, Nat.reduceAdd, Nat.reduceLT, Nat.reduceLeDiff, Nat.reduceMul, Nat.reduceSub, ↓reduceIte, decide_true, decide_false, Bool.true_eq_false, Bool.false_eq_true, Bool.not_true, Bool.not_false, if_true, if_false, and_true, true_and, memE, celE, w64, Nat.zero_add, Nat.add_zero, Nat.mul_one, putL, and_self, ldn, c_impl_TurningPeriods, r_impl_TurningPeriods]
  refine callH_rc (implIsCase_rc _ _ k (hc.ext _)) ?_
  rintro r new ⟨rfl, nr1⟩
  have hx : Grow (roM m ++ [⟨.own, 26, [v1, v2, v3, v4]⟩]) (roM m ++ [⟨.own, 26, [v1, v2, v3, v4]⟩] ++ new) := (Grow.refl _).app nr1
  cases hg : k.good with
  | false =>
    simp (config := {implicitDefEqProofs := false, maxDischargeDepth := 20}) (disch := first | omega | (simp only [lenE]; done) | (simp only [lenE]; omega) | rfl | (simp only [lenE, markR_len]; done) | (simp only [lenE, markR_len]; omega)) only [runE, mapE, listE, initT_5, initT_6, initT_7, initT_8, resV, oneV, binA, unA, reduceCtorEq, Nat.reduceEqDiff, Nat.reduceAdd, Nat.reduceLT, Nat.reduceLeDiff, Nat.reduceMul, Nat.reduceSub, ↓reduceIte, decide_true, decide_false, Bool.true_eq_false, Bool.false_eq_true, Bool.not_true, Bool.not_false, if_true, if_false, and_true, true_and, memE, celE, w64, Nat.zero_add, Nat.add_zero, Nat.mul_one, putL, and_self, ldn, bsl_none]
    rw [turnA_no hg]
    refine ext_ansL (hx.ext.one _ _) (OwnR.end' (l := []) ?_) (by omega) rfl (by simp)
    simp only [List.length_append, List.length_cons, List.length_nil, roM_len]
  | true =>
    have gd := good_iff.1 hg
    have h8 := gd.n8
    rw [turnA_yes hg]
    simp (config := {implicitDefEqProofs := false, maxDischargeDepth := 20}) (disch := first | omega | (simp only [lenE]; done) | (simp only [lenE]; omega) | rfl | (simp only [lenE, markR_len]; done) | (simp only [lenE, markR_len]; omega)) only [runE, mapE, listE, initT_5, initT_6, initT_7, initT_8, resV, oneV, binA, unA, reduceCtorEq, Nat.reduceEqDiff, Nat.reduceAdd, Nat.reduceLT, Nat.reduceLeDiff, Nat.reduceMul, Nat.reduceSub, ↓reduceIte, decide_true, decide_false, Bool.true_eq_false, Bool.false_eq_true, Bool.not_true, Bool.not_false, if_true, if_false, and_true, true_and, memE, celE, w64, Nat.zero_add, Nat.add_zero, Nat.mul_one, putL, and_self, ldn]
    refine callH_rc (forwardTable_rc _ _ k (hx.caseV hc) gd) ?_
    intro r new2 hA
    obtain ⟨d1, d2, f1, f2, rfl, l1, l2, o1, o2, nr2⟩ := hA.rows
    have hx2 := hx.app nr2
    simp only [List.length_append, List.length_cons, List.length_nil, roM_len] at l1 l2
    simp (config := {implicitDefEqProofs := false, maxDischargeDepth := 20}) (disch := first | omega | (simp only [lenE]; done) | (simp only [lenE]; omega) | rfl | (simp only [lenE, markR_len]; done) | (simp only [lenE, markR_len]; omega)) only [runE, mapE, listE, initT_5, initT_6, initT_7, initT_8, resV, oneV, binA, unA, reduceCtorEq, Nat.reduceEqDiff, Nat.reduceAdd, Nat.reduceLT, Nat.reduceLeDiff, Nat.reduceMul, Nat.reduceSub, ↓reduceIte, decide_true, decide_false, Bool.true_eq_false, Bool.false_eq_true, Bool.not_true, Bool.not_false, if_true, if_false, and_true, true_and, memE, celE, w64, Nat.zero_add, Nat.add_zero, Nat.mul_one, putL, and_self, ldn, ext_2_0, ext_2_1]
    refine callH_rc (backwardTable_rc _ _ k (hx2.caseV hc) gd) ?_
    intro r new3 hB
    obtain ⟨d3, f3, rfl, l3, o3, -, nr3⟩ := hB.row
    have hx3 := hx2.app nr3
    have o13 := o1.ext new3
    simp only [List.length_append, List.length_cons, List.length_nil, roM_len] at l3
    have d1l := o1.lt
    simp only [List.length_append, List.length_cons, List.length_nil, roM_len] at d1l
    have ll := fwdC_len k k.need.length
    have lb := bwdL_len k
    have hle := fun t => turnP_len k t
    have bf := fwdC_in gd k.need.length h8
    have bb := bwdL_in gd
    have tat : ∀ t, turnAt k t = ((fwdC k k.need.length).getD t 0 + (bwdL k).getD t 0 == (bwdL k).getD 0 0) := fun _ => rfl
    generalize fwdC k k.need.length = ls at *
    generalize bwdL k = lk at *
    obtain ⟨M0, hM0⟩ : ∃ M0, M0 = roM m ++ [⟨.own, 26, [v1, v2, v3, v4]⟩] ++ new ++ new2 ++ new3 := ⟨_, rfl⟩
    have L0 : M0.length = m.length + 1 + new.length + new2.length + new3.length := by rw [hM0]; simp [roM_len]; omega
    rw [← hM0] at hx3 o13 o3 ⊢
    have ib := o3.ints (by omega) f3
    have a0 : iadA 1 (.slice (some ⟨d3, 0, none⟩) lk.length f3) (.int .i64 0) = some (pAt (.slice (some ⟨d3, 0, none⟩) lk.length f3) 0) := ib.at_ 0 (by omega)
    simp (config := {implicitDefEqProofs := false, maxDischargeDepth := 20}) (disch := first | omega | (simp only [lenE]; done) | (simp only [lenE]; omega) | rfl | (simp only [lenE, markR_len]; done) | (simp only [lenE, markR_len]; omega)) only [runE, mapE, listE, initT_5, initT_6, initT_7, initT_8, resV, oneV, binA, unA, reduceCtorEq, Nat.reduceEqDiff, Nat.reduceAdd, Nat.reduceLT, Nat.reduceLeDiff, Nat.reduceMul, Nat.reduceSub, ↓reduceIte, decide_true, decide_false, Bool.true_eq_false, Bool.false_eq_true, Bool.not_true, Bool.not_false, if_true, if_false, and_true, true_and, memE, celE, w64, Nat.zero_add, Nat.add_zero, Nat.mul_one, putL, and_self, ldn, a0, ib.ld 0 (by omega)]
    have o13b := o13.ext [⟨.own, 3, [.int .i64 (lk.getD 0 0)]⟩]
    have o3b := o3.ext [⟨.own, 3, [.int .i64 (lk.getD 0 0)]⟩]
    have hx4 := hx3.one 3 [.int .i64 (lk.getD 0 0)]
    have hbx : rdc (M0 ++ [⟨.own, 3, [.int .i64 (lk.getD 0 0)]⟩]) M0.length 0 = some (.int .i64 (lk.getD 0 0)) := by rw [rdc_box rfl]; rfl
    have d3l := o3.lt
    refine loop_inv mixed (fun s => ∃ (t : Nat) (M : Mem) (L : List Int), t ≤ k.need.length + 1 ∧ s.t 6 = .slice (some ⟨d3, 0, none⟩) (k.need.length + 1) f3 ∧ s.t 7 = .pointer (some ⟨M0.length, 0, none⟩) ∧ s.t 24 = .slice (some ⟨d1, 0, none⟩) ls.length f1 ∧ s.t 25 = .int .i64 ls.length ∧ s.t 26 = .int .i64 t ∧ s.m = M ∧ Grow (roM m ++ [⟨.own, 26, [v1, v2, v3, v4]⟩]) M ∧ OwnR M d1 ls ∧ OwnR M d3 L ∧ rdc M M0.length 0 = some (.int .i64 (lk.getD 0 0)) ∧ L.length = k.need.length + 1 ∧ (∀ i, i < t → L.getD i 0 = ls.getD i 0 + lk.getD i 0) ∧ (∀ i, t ≤ i → L.getD i 0 = lk.getD i 0)) (fun s => k.need.length + 1 - (intOf (s.t 26)).toNat)
      ⟨0, _, lk, by omega, by simp only [put_t, put_t', put_m, putT_t, putT_t', putT_m, init_t, init_m, initT_0, initT_1, initT_2, initT_3, initT_4, initT_5, initT_6, initT_7, initT_8, Nat.reduceEqDiff, ↓reduceIte]; rw [lb], rfl, rfl, rfl, rfl, rfl, hx4, o13b, o3b, hbx, lb, fun i hi => absurd hi (by omega), fun i _ => rfl⟩ ?_
    rintro s ⟨t, M, L, hk, t6, t7, t24, t25, t26, tm, hxM, oa, ob, hbM, hL, hpre, hpost⟩
    have ia := oa.ints (by omega) f1
    by_cases hlt : t < k.need.length + 1
    · have hlt' : (t : Int) < ls.length := by omega
      have b1 := getD_bound (by omega) bf t
      have b2 := getD_bound (by omega) bb t
      have rdt := ob.rd (i := t) (by omega)
      rw [hpost t (Nat.le_refl _)] at rdt
      have ost := ob.st (off := t) (x := lk.getD t 0 + ls.getD t 0) (by omega)
      simp (config := {implicitDefEqProofs := false, maxDischargeDepth := 20}) (disch := first | omega | (simp only [lenE]; done) | (simp only [lenE]; omega) | rfl | (simp only [lenE, markR_len]; done) | (simp only [lenE, markR_len]; omega)) only [runE, mapE, listE, initT_5, initT_6, initT_7, initT_8, resV, oneV, binA, unA, reduceCtorEq, Nat.reduceEqDiff, Nat.reduceAdd, Nat.reduceLT, Nat.reduceLeDiff, Nat.reduceMul, Nat.reduceSub, ↓reduceIte, decide_true, decide_false, Bool.true_eq_false, Bool.false_eq_true, Bool.not_true, Bool.not_false, if_true, if_false, and_true, true_and, memE, celE, w64, Nat.zero_add, Nat.add_zero, Nat.mul_one, putL, and_self, ldn, t6, t7, t24, t25, t26, tm, hlt', ia.at_ t (by omega), ia.ld t (by omega), iadA_in hlt, rdt, ost]
      have hne : d3 ≠ d1 := by omega
      have hneb : d3 ≠ M0.length := by omega
      have gs : ∀ i, (L.set t (lk.getD t 0 + ls.getD t 0)).getD i 0 = if i = t then lk.getD t 0 + ls.getD t 0 else L.getD i 0 := fun i => by
        rw [List.getD_eq_getElem?_getD, List.getElem?_set]
        by_cases e : t = i
        · subst e; rw [if_pos rfl, if_pos rfl, if_pos (by omega)]; rfl
        · rw [if_neg e, if_neg (fun h => e h.symm), List.getD_eq_getElem?_getD]
      refine ⟨⟨t + 1, _, L.set t (lk.getD t 0 + ls.getD t 0), by omega, by simp, rfl, hxM.put (by simp [roM_len]; omega) _ _, oa.set_ne hne, OwnR.set_self ob, ?_, by simpa using hL, ?_, ?_⟩, by simp [intOf]; omega⟩
      · unfold rdc at hbM ⊢
        rw [List.getElem?_set_ne hneb]; exact hbM
      · intro i hi
        rw [gs]
        by_cases e : i = t
        · rw [if_pos e, e]; omega
        · rw [if_neg e]; exact hpre i (by omega)
      · intro i hi
        rw [gs, if_neg (by omega)]
        exact hpost i (by omega)
    · have hlt' : ¬ ((t : Int) < ls.length) := by omega
      have e : t = k.need.length + 1 := by omega
      subst e
      have hi := ob.ints (by omega) f3
      rw [hL] at hi
      simp (config := {implicitDefEqProofs := false, maxDischargeDepth := 20}) (disch := first | omega | (simp only [lenE]; done) | (simp only [lenE]; omega) | rfl | (simp only [lenE, markR_len]; done) | (simp only [lenE, markR_len]; omega)) only [runE, mapE, listE, initT_5, initT_6, initT_7, initT_8, resV, oneV, binA, unA, reduceCtorEq, Nat.reduceEqDiff, Nat.reduceAdd, Nat.reduceLT, Nat.reduceLeDiff, Nat.reduceMul, Nat.reduceSub, ↓reduceIte, decide_true, decide_false, Bool.true_eq_false, Bool.false_eq_true, Bool.not_true, Bool.not_false, if_true, if_false, and_true, true_and, memE, celE, w64, Nat.zero_add, Nat.add_zero, Nat.mul_one, putL, and_self, ldn, t6, t7, t24, t25, t26, tm, hlt']
      refine callH_rc (periodsWith2_rc M _ _ L (fun x => x == lk.getD 0 0) hi (fun M' hM' => test_turn M' _ _ (hM'.rd hbM)) (by omega)) ?_
      intro r new4 hP
      obtain ⟨d4, f4, rfl, l4, o4, -, nr4⟩ := hP.row
      have ep : picks (fun x => x == lk.getD 0 0) L L.length = turnP k (k.need.length + 1) := by
        rw [hL]
        refine picks_turn _ fun i hi => ?_
        rw [tat, hpre i hi]
      rw [ep] at o4
      have := hle (k.need.length + 1)
      have hlm := hxM.len
      simp only [List.length_append, List.length_cons, List.length_nil, roM_len] at hlm
      simp (config := {implicitDefEqProofs := false, maxDischargeDepth := 20}) (disch := first | omega | (simp only [lenE]; done) | (simp only [lenE]; omega) | rfl | (simp only [lenE, markR_len]; done) | (simp only [lenE, markR_len]; omega)) only [runE, mapE, listE, initT_5, initT_6, initT_7, initT_8, resV, oneV, binA, unA, reduceCtorEq, Nat.reduceEqDiff, Nat.reduceAdd, Nat.reduceLT, Nat.reduceLeDiff, Nat.reduceMul, Nat.reduceSub, ↓reduceIte, decide_true, decide_false, Bool.true_eq_false, Bool.false_eq_true, Bool.not_true, Bool.not_false, if_true, if_false, and_true, true_and, memE, celE, w64, Nat.zero_add, Nat.add_zero, Nat.mul_one, putL, and_self, ldn, ep]
      exact ext_ansL (hxM.app nr4).ext o4 (by omega) rfl (by omega)
end Go.Proofs.Ytncajinepljdhaa.Ab
end
section
namespace Go.Proofs.Ytncajinepljdhaa
set_option linter.unusedVariables false
set_option linter.unusedSimpArgs false
def needQ (k : Cs) : Nat → Nat → Nat
  | 0, t => t
  | f + 1, t => if k.need.getD t 0 = 0 then needQ k f (t + 1) else t
def needN (k : Cs) (t : Nat) : Nat := needQ k (k.need.length - t) t
theorem needQ_le (k : Cs) (f : Nat) : ∀ t, needQ k f t ≤ t + f := by
  induction f with
  | zero => intro t; exact Nat.le_refl _
  | succ f ih =>
    intro t
    rw [needQ]
    split
    · have := ih (t + 1); omega
    · omega
theorem needN_le {k : Cs} {t : Nat} (h : t ≤ k.need.length) : needN k t ≤ k.need.length := by
  have := needQ_le k (k.need.length - t) t
  unfold needN; omega
end Go.Proofs.Ytncajinepljdhaa
end
section
namespace Go.Proofs.Ytncajinepljdhaa
set_option linter.unusedVariables false
set_option linter.unusedSimpArgs false
theorem bef_le {a b : Int × List Int} (h : bef a b = true) : a.1 ≤ b.1 := by
  unfold bef at h
  by_cases e : a.1 = b.1
  · omega
  · rw [if_neg e] at h; have := of_decide_eq_true h; omega
theorem bef_ge {a b : Int × List Int} (h : ¬ bef a b = true) : b.1 ≤ a.1 := by
  unfold bef at h
  by_cases e : a.1 = b.1
  · omega
  · rw [if_neg e] at h
    by_cases g : a.1 < b.1
    · exact absurd (decide_eq_true g) h
    · omega
theorem bwd_dp {k : Cs} (n m : Nat) (hm : m ≤ n) : ∀ x, x ≤ m → (bwdF k n m).getD x 0 = costL k n (dp k n (n - m + x)) := by
  induction m with
  | zero =>
    intro x hx
    obtain rfl : x = 0 := by omega
    rw [dp_end k (by omega)]; rfl
  | succ m ih =>
    intro x hx
    have ih := ih (by omega)
    rw [bwdF]
    cases x with
    | succ x =>
      rw [List.getD_cons_succ, ih x (by omega)]
      congr 2; omega
    | zero =>
      rw [List.getD_cons_zero, show n - (m + 1) + 0 = n - (m + 1) from rfl, dp_loop k (by omega), show n - 1 - (n - (m + 1)) = m by omega]
      have : ∀ q, q ≤ m → bmin k n (n - (m + 1)) (bwdF k n m) q = costL k n (dpLoop k n (n - (m + 1)) (dp k n) q) := by
        intro q
        induction q with
        | zero => intro _; rw [bmin, dpLoop, costL_cons, beg_nil, costL_nil]; simp
        | succ q ihq =>
          intro hq
          have e : n - m + q = n - (m + 1) + 1 + q := by omega
          have hd : beg n (dp k n (n - (m + 1) + 1 + q)) 0 = n - (m + 1) + 1 + q := ((dp_min k n (n - (n - (m + 1) + 1 + q)) _ (by omega)).1).2
          rw [bmin, ihq (by omega), ih q (by omega), e, dpLoop]
          have hc : costL k n (((n - (m + 1) : Nat) : Int) :: dp k n (n - (m + 1) + 1 + q)) = spanF k (n - (m + 1)) (n - (m + 1) + 1 + q) + costL k n (dp k n (n - (m + 1) + 1 + q)) := by
            rw [costL_cons, hd]; simp
          split
          · rename_i hb
            have := bef_le hb
            simp only [] at this
            rw [hc] at this ⊢
            omega
          · rename_i hb
            have := bef_ge hb
            simp only [] at this
            rw [hc] at this
            omega
      exact this m (Nat.le_refl _)
theorem needQ_spec (k : Cs) : ∀ (f t : Nat), (∀ j, t ≤ j → j < needQ k f t → k.need.getD j 0 = 0) ∧ (needQ k f t = t + f ∨ k.need.getD (needQ k f t) 0 ≠ 0) := by
  intro f
  induction f with
  | zero => intro t; exact ⟨fun j h1 h2 => by rw [needQ] at h2; omega, .inl rfl⟩
  | succ f ih =>
    intro t
    rw [needQ]
    by_cases h : k.need.getD t 0 = 0
    · rw [if_pos h]
      obtain ⟨h1, h2⟩ := ih (t + 1)
      refine ⟨fun j g1 g2 => ?_, ?_⟩
      · by_cases e : j = t
        · rw [e]; exact h
        · exact h1 j (by omega) g2
      · rcases h2 with h2 | h2
        · left; omega
        · exact .inr h2
    · rw [if_neg h]
      exact ⟨fun j g1 g2 => by omega, .inr h⟩
theorem firstN (k : Cs) : (∀ j, j < needN k 0 → k.need.getD j 0 = 0) ∧ (needN k 0 = k.need.length ∨ (needN k 0 < k.need.length ∧ k.need.getD (needN k 0) 0 ≠ 0)) := by
  obtain ⟨h1, h2⟩ := needQ_spec k (k.need.length - 0) 0
  have hle := needN_le (k := k) (t := 0) (by omega)
  refine ⟨fun j hj => h1 j (by omega) hj, ?_⟩
  rcases h2 with h2 | h2
  · left; unfold needN; omega
  · by_cases e : needN k 0 = k.need.length
    · exact .inl e
    · exact .inr ⟨by omega, h2⟩
theorem sumR_none {k : Cs} {f : Nat} (h : ∀ j, j < f → k.need.getD j 0 = 0) : ∀ t, t ≤ f → sumR k.need 0 t = 0 := by
  intro t
  induction t with
  | zero => intro _; exact sumR_self _ _
  | succ t ih => intro ht; rw [sumR_s, ih (by omega), h t (by omega)]; rfl
theorem bwd_best {k : Cs} (hg : Good k) : (bwdL k).getD 0 0 = bestCost k := by
  obtain ⟨hz, hT⟩ := firstN k
  have hle := needN_le (k := k) (t := 0) (by omega)
  obtain ⟨T, hTe⟩ : ∃ T, T = needN k 0 := ⟨_, rfl⟩
  rw [← hTe] at hz hT hle
  have hb := (bestL_dp hg hle hz hT).2
  have hd := bwd_dp (k := k) k.need.length k.need.length (Nat.le_refl _) 0 (Nat.zero_le _)
  rw [Nat.sub_self, Nat.add_zero] at hd
  unfold bwdL
  rw [hd, hb]
  have m0 := dp_min k k.need.length k.need.length 0 (by omega)
  have mT := blF_min k k.need.length T hle
  have a : costL k k.need.length (blF k k.need.length T) ≤ costL k k.need.length (dp k k.need.length 0) := by
    rcases mT.2 _ ⟨m0.1.1, by rw [m0.1.2]; omega⟩ with h | h
    · rw [h]; exact Int.le_refl _
    · exact bef_le h
  have b : costL k k.need.length (dp k k.need.length 0) ≤ costL k k.need.length (blF k k.need.length T) := by
    obtain ⟨h1, h2⟩ := mT.1
    by_cases e : beg k.need.length (blF k k.need.length T) 0 = 0
    · rcases m0.2 _ ⟨h1, e⟩ with h | h
      · rw [h]; exact Int.le_refl _
      · exact bef_le h
    · have hc : costL k k.need.length ((0 : Int) :: blF k k.need.length T) = costL k k.need.length (blF k k.need.length T) := by
        rw [costL_cons, show ((0 : Int)).toNat = 0 from rfl, spanF_zero k (sumR_none hz _ h2)]; simp
      rw [← hc]
      rcases m0.2 ((0 : Int) :: blF k k.need.length T) ⟨h1.cons (by omega) (show ((0 : Int)).toNat < _ by have : ((0 : Int)).toNat = 0 := rfl; omega), by rw [beg_cons0]; rfl⟩ with h | h
      · rw [h]; exact Int.le_refl _
      · exact bef_le h
  omega
end Go.Proofs.Ytncajinepljdhaa
end
section
namespace Go.Proofs.Ytncajinepljdhaa.Ab
open Go.Proofs.Ytncajinepljdhaa
set_option linter.unusedVariables false
set_option linter.unusedSimpArgs false
theorem sumR_cut (l : List Int) {a b i : Nat} : ∀ j, i ≤ j → a + j ≤ b → sumR (cutL l a b) i j = sumR l (a + i) (a + j) := by
  intro j
  induction j with
  | zero => intro h1 h2; obtain rfl : i = 0 := by omega
            rw [sumR_self, sumR_self]
  | succ j ih =>
    intro h1 h2
    by_cases e : i = j + 1
    · rw [e, sumR_self, sumR_self]
    · rw [sumR_s, ih (by omega) (by omega), cutL_at (by omega), ← Nat.add_assoc, sumR_s]
theorem rateF_cut (k : Cs) {a b i t : Nat} (h1 : i ≤ t) (h2 : a + t ≤ b) (h3 : a + i < b) : rateF (cutC k a b) i t = rateF k (a + i) (a + t) := by
  unfold rateF cutC
  simp only []
  rw [cutL_at h3, sumR_cut k.hold t h1 h2]
theorem spanS_cut (k : Cs) {a b i : Nat} : ∀ t, i ≤ t → a + t ≤ b → spanS (cutC k a b) i t = spanS k (a + i) (a + t) := by
  intro t
  induction t with
  | zero => intro h1 h2; obtain rfl : i = 0 := by omega
            rw [spanS_self, spanS_self]
  | succ t ih =>
    intro h1 h2
    by_cases e : i = t + 1
    · rw [e, spanS_self, spanS_self]
    · rw [spanS_s _ (by omega), ih (by omega) (by omega), rateF_cut k (by omega) (by omega) (by omega), ← Nat.add_assoc, spanS_s _ (by omega)]
      congr 2
      exact cutL_at (by omega)
theorem spanF_cut (k : Cs) {a b i j : Nat} (h1 : i < j) (h2 : a + j ≤ b) : spanF (cutC k a b) i j = spanF k (a + i) (a + j) := by
  unfold spanF
  rw [spanS_cut k j (by omega) h2]
  have e1 : (cutC k a b).setup.getD i 0 = k.setup.getD (a + i) 0 := cutL_at (by omega)
  have e2 : sumR (cutC k a b).need i j = sumR k.need (a + i) (a + j) := sumR_cut k.need j (by omega) h2
  rw [e1, e2]
theorem mem_cut {l : List Int} {a b : Nat} {x : Int} (h : x ∈ cutL l a b) : x ∈ l := List.mem_of_mem_take (List.mem_of_mem_drop h)
theorem good_cut {k : Cs} (hg : Good k) {a b : Nat} (hb : b ≤ k.need.length) : Good (cutC k a b) := by
  have h1 := hg.ls
  have h2 := hg.lu
  have h3 := hg.lh
  have h8 := hg.n8
  refine ⟨?_, fun x h => hg.need x (mem_cut h), fun x h => hg.setup x (mem_cut h), fun x h => hg.unit x (mem_cut h), fun x h => hg.hold x (mem_cut h), ?_, ?_, ?_⟩
  · show (cutL k.need a b).length ≤ 8
    rw [cutL_len hb]; omega
  · show (cutL k.setup a b).length = (cutL k.need a b).length
    rw [cutL_len hb, cutL_len (by omega)]
  · show (cutL k.unit a b).length = (cutL k.need a b).length
    rw [cutL_len hb, cutL_len (by omega)]
  · show (cutL k.hold a b).length = (cutL k.need a b).length
    rw [cutL_len hb, cutL_len (by omega)]
theorem cut_n {k : Cs} {a b : Nat} (hb : b ≤ k.need.length) : (cutC k a b).need.length = b - a := cutL_len hb

theorem bmin_cut (k : Cs) {a n m : Nat} (hm : m + 1 ≤ n - a) (ha : a ≤ n) (tail : List Int) : ∀ y, y ≤ m → bmin (cutC k a n) (n - a) (n - a - (m + 1)) tail y = bmin k n (n - (m + 1)) tail y := by
  intro y
  induction y with
  | zero =>
    intro _
    rw [bmin, bmin, spanF_cut k (by omega) (by omega)]
    congr 1 <;> omega
  | succ y ih =>
    intro hy
    rw [bmin, bmin, ih (by omega), spanF_cut k (by omega) (by omega)]
    congr 3 <;> omega
theorem bwdF_cut (k : Cs) {a n : Nat} (ha : a ≤ n) : ∀ m, m ≤ n - a → bwdF (cutC k a n) (n - a) m = bwdF k n m := by
  intro m
  induction m with
  | zero => intro _; rfl
  | succ m ih => intro hm; rw [bwdF, bwdF, ih (by omega), bmin_cut k hm ha _ m (Nat.le_refl _)]
theorem lastB_congr {f g : Nat → Int} : ∀ n, (∀ i, i < n → f i = g i) → lastB f n = lastB g n := by
  intro n
  induction n with
  | zero => intro _; rfl
  | succ n ih =>
    intro h
    rw [lastB, lastB, ih fun i hi => h i (by omega), h n (by omega)]
    by_cases h0 : n = 0
    · subst h0
      show (if g 0 ≤ f 0 then 0 else 0) = (if g 0 ≤ g 0 then 0 else 0)
      split <;> split <;> rfl
    · have hl : lastB g n < n := by
        have := lastB_lt g (n - 1)
        rw [show n - 1 + 1 = n by omega] at this
        omega
      rw [h (lastB g n) (by omega)]
theorem fwdC_cut (k : Cs) {x : Nat} : ∀ j, j ≤ x → fwdC (cutC k 0 x) j = fwdC k j := by
  intro j
  induction j with
  | zero => intro _; rfl
  | succ j ih =>
    intro hj
    have hv : ∀ i, i < j + 1 → valF (cutC k 0 x) (fwdC k j) (j + 1) i = valF k (fwdC k j) (j + 1) i := fun i hi => by
      unfold valF
      rw [spanF_cut k hi (by omega)]
      simp
    rw [fwdC, fwdC, ih (by omega), lastB_congr (j + 1) hv, hv _ (by have := lastB_lt (valF k (fwdC k j) (j + 1)) j; omega)]

theorem fwd_at (k : Cs) {n j : Nat} (hj : j + 1 ≤ n) : (fwdC k n).getD (j + 1) 0 = valF k (fwdC k j) (j + 1) (fwdB k j) := by
  rw [fwdC_keep k (Nat.le_refl (j + 1)) hj, fwdC, getD_app, fwdC_len, if_neg (by omega), if_pos rfl]
  rfl
theorem fwd_le (k : Cs) {n i j : Nat} (hij : i < j) (hj : j ≤ n) : (fwdC k n).getD j 0 ≤ (fwdC k n).getD i 0 + spanF k i j := by
  obtain ⟨j, rfl⟩ : ∃ q, j = q + 1 := ⟨j - 1, by omega⟩
  rw [fwd_at k hj]
  have := lastB_le (valF k (fwdC k j) (j + 1)) (j + 1) i hij
  rw [fwdC_keep k (show i ≤ j by omega) (show j ≤ n by omega)]
  exact this
theorem fwd_eq (k : Cs) {n j : Nat} (h0 : 0 < j) (hj : j ≤ n) : ∃ i, i < j ∧ (fwdC k n).getD j 0 = (fwdC k n).getD i 0 + spanF k i j := by
  obtain ⟨j, rfl⟩ : ∃ q, j = q + 1 := ⟨j - 1, by omega⟩
  refine ⟨fwdB k j, by have := fwdB_le k j; omega, ?_⟩
  rw [fwd_at k hj, fwdC_keep k (fwdB_le k j) (show j ≤ n by omega)]
  rfl
theorem bmin_le (k : Cs) (n i : Nat) (tail : List Int) (y : Nat) : bmin k n i tail y ≤ spanF k i n ∧ ∀ x, x < y → bmin k n i tail y ≤ spanF k i (i + 1 + x) + tail.getD x 0 := by
  induction y with
  | zero => exact ⟨Int.le_refl _, fun x hx => absurd hx (by omega)⟩
  | succ y ih =>
    rw [bmin]
    refine ⟨by have := ih.1; omega, fun x hx => ?_⟩
    by_cases e : x = y
    · rw [e]; omega
    · have := ih.2 x (by omega); omega
theorem bmin_mem (k : Cs) (n i : Nat) (tail : List Int) (y : Nat) : bmin k n i tail y = spanF k i n ∨ ∃ x, x < y ∧ bmin k n i tail y = spanF k i (i + 1 + x) + tail.getD x 0 := by
  induction y with
  | zero => exact .inl rfl
  | succ y ih =>
    rw [bmin]
    by_cases h : bmin k n i tail y ≤ spanF k i (i + 1 + y) + tail.getD y 0
    · rw [show min (bmin k n i tail y) (spanF k i (i + 1 + y) + tail.getD y 0) = bmin k n i tail y by omega]
      rcases ih with h1 | ⟨x, h1, h2⟩
      · exact .inl h1
      · exact .inr ⟨x, by omega, h2⟩
    · exact .inr ⟨y, by omega, by omega⟩
def bwdD (k : Cs) (y : Nat) : Int := costL k k.need.length (dp k k.need.length y)
theorem bwd_D (k : Cs) {y : Nat} (hy : y ≤ k.need.length) : (bwdL k).getD y 0 = bwdD k y := by
  have := bwd_dp (k := k) k.need.length k.need.length (Nat.le_refl _) y hy
  rw [Nat.sub_self, Nat.zero_add] at this
  exact this
theorem bwd_F (k : Cs) {m x : Nat} (hm : m ≤ k.need.length) (hx : x ≤ m) : (bwdF k k.need.length m).getD x 0 = bwdD k (k.need.length - m + x) := bwd_dp _ m hm x hx
theorem bwdD_n (k : Cs) : bwdD k k.need.length = 0 := by
  have := bwd_F k (m := 0) (x := 0) (by omega) (by omega)
  rw [Nat.sub_zero, Nat.add_zero] at this
  rw [← this]
  rfl
theorem bwdD_s (k : Cs) {i : Nat} (hi : i < k.need.length) : bwdD k i = bmin k k.need.length i (bwdF k k.need.length (k.need.length - i - 1)) (k.need.length - i - 1) := by
  have := bwd_F k (m := k.need.length - i - 1 + 1) (x := 0) (by omega) (by omega)
  rw [bwdF, show k.need.length - (k.need.length - i - 1 + 1) = i by omega, Nat.add_zero] at this
  rw [← this]
  rfl
theorem bwd_le (k : Cs) {i j : Nat} (hij : i < j) (hj : j ≤ k.need.length) : bwdD k i ≤ spanF k i j + bwdD k j := by
  rw [bwdD_s k (by omega)]
  have h := bmin_le k k.need.length i (bwdF k k.need.length (k.need.length - i - 1)) (k.need.length - i - 1)
  by_cases e : j = k.need.length
  · rw [e, bwdD_n]; have := h.1; omega
  · have h2 := h.2 (j - i - 1) (by omega)
    rw [bwd_F k (by omega) (by omega), show i + 1 + (j - i - 1) = j by omega, show k.need.length - (k.need.length - i - 1) + (j - i - 1) = j by omega] at h2
    exact h2
theorem bwd_eq (k : Cs) {i : Nat} (hi : i < k.need.length) : ∃ j, i < j ∧ j ≤ k.need.length ∧ bwdD k i = spanF k i j + bwdD k j := by
  have h := bmin_mem k k.need.length i (bwdF k k.need.length (k.need.length - i - 1)) (k.need.length - i - 1)
  rw [← bwdD_s k hi] at h
  rcases h with h | ⟨x, hx, h⟩
  · exact ⟨k.need.length, hi, Nat.le_refl _, by rw [bwdD_n]; omega⟩
  · refine ⟨i + 1 + x, by omega, by omega, ?_⟩
    rw [bwd_F k (by omega) (by omega), show k.need.length - (k.need.length - i - 1) + x = i + 1 + x by omega] at h
    exact h
theorem both_ge (k : Cs) : ∀ j, j ≤ k.need.length → bwdD k 0 ≤ (fwdC k k.need.length).getD j 0 + bwdD k j := by
  intro j
  induction j using Nat.strongRecOn with
  | ind j ih =>
    intro hj
    by_cases h0 : j = 0
    · subst h0; rw [fwdC_at0]; omega
    · obtain ⟨i, hi, e⟩ := fwd_eq k (Nat.pos_of_ne_zero h0) hj
      have h1 := ih i hi (by omega)
      have h2 := bwd_le k hi hj
      omega
theorem fwd_ge (k : Cs) : ∀ d j, j + d = k.need.length → (fwdC k k.need.length).getD k.need.length 0 ≤ (fwdC k k.need.length).getD j 0 + bwdD k j := by
  intro d
  induction d using Nat.strongRecOn with
  | ind d ih =>
    intro j hj
    by_cases h0 : j = k.need.length
    · rw [h0, bwdD_n]; omega
    · obtain ⟨i, hi, hi2, e⟩ := bwd_eq k (i := j) (by omega)
      have h1 := ih (k.need.length - i) (by omega) i (by omega)
      have h2 := fwd_le k hi hi2
      omega
theorem fwd_tot (k : Cs) : (fwdC k k.need.length).getD k.need.length 0 = bwdD k 0 := by
  have h1 := both_ge k k.need.length (Nat.le_refl _)
  have h2 := fwd_ge k k.need.length 0 (by omega)
  rw [bwdD_n] at h1
  rw [fwdC_at0] at h2
  omega
theorem best_D {k : Cs} (hg : Good k) : bestCost k = bwdD k 0 := by rw [← bwd_best hg, bwd_D k (by omega)]
theorem best_pre {k : Cs} (hg : Good k) {x : Nat} (hx : x ≤ k.need.length) : bestCost (cutC k 0 x) = (fwdC k k.need.length).getD x 0 := by
  rw [best_D (good_cut hg hx), ← fwd_tot, cut_n hx, Nat.sub_zero, fwdC_cut k x (Nat.le_refl _), fwdC_keep k (Nat.le_refl x) hx]
theorem best_suf {k : Cs} (hg : Good k) {x : Nat} (hx : x ≤ k.need.length) : bestCost (cutC k x k.need.length) = (bwdL k).getD x 0 := by
  rw [← bwd_best (good_cut hg (Nat.le_refl _))]
  unfold bwdL
  rw [cut_n (Nat.le_refl _), bwdF_cut k hx _ (Nat.le_refl _), bwd_F k (by omega) (by omega), show k.need.length - (k.need.length - x) + 0 = x by omega]
  exact (bwd_D k hx).symm
theorem best_span {k : Cs} (hg : Good k) {i j : Nat} (hij : i < j) (hj : j ≤ k.need.length) : bestCost (cutC k i j) ≤ spanF k i j := by
  have hn := cut_n (k := k) (a := i) hj
  rw [best_D (good_cut hg hj)]
  have h := bwd_le (cutC k i j) (i := 0) (j := j - i) (by omega) (by omega)
  have h0 := bwdD_n (cutC k i j)
  rw [hn] at h0
  rw [h0, spanF_cut k (by omega) (by omega)] at h
  rw [show i + (j - i) = j by omega] at h
  simpa using h
theorem turn_iff {k : Cs} (hg : Good k) {x : Nat} (hx : x ≤ k.need.length) : bestCost k ≤ bestCost (cutC k 0 x) + bestCost (cutC k x k.need.length) ∧ turnAt k x = (bestCost (cutC k 0 x) + bestCost (cutC k x k.need.length) == bestCost k) := by
  rw [best_pre hg hx, best_suf hg hx]
  constructor
  · rw [best_D hg, bwd_D k hx]; exact both_ge k x hx
  · unfold turnAt
    rw [bwd_best hg]
end Go.Proofs.Ytncajinepljdhaa.Ab
end
section
namespace Go.Proofs.Ytncajinepljdhaa.Ab
open Go Go.RowKit Go.Proofs
set_option maxRecDepth 100000
def c_laws_FnForwardCosts : ACode := .seq (.reg [⟨(some 2), .mv (.const (.bool false)), none⟩])
 (.seq (.seq (.reg [⟨(some 43), .mv (.tmp 0), none⟩,
  ⟨(some 44), .call (.func 13) [(.tmp 43)], none⟩])
 (.cond (.tmp 44) (.seq (.reg [⟨(some 2), .mv (.const (.bool true)), none⟩])
 (.ret)) (.skip)))
 (.seq (.reg [⟨(some 45), .mv (.tmp 0), none⟩,
  ⟨(some 46), .call (.func 14) [(.tmp 45)], none⟩,
  ⟨(some 3), .alc 26 [(.slice none 0 0), (.slice none 0 0), (.slice none 0 0), (.slice none 0 0)], none⟩,
  ⟨none, .st 4 (.tmp 3) (.tmp 46), none⟩])
 (.seq (.reg [⟨(some 48), .ld (some 4) (.tmp 3), none⟩,
  ⟨(some 49), .call (.func 15) [(.tmp 48)], none⟩,
  ⟨(some 47), .mv (.tmp 49), none⟩,
  ⟨(some 50), .ext 0 (.tmp 47), none⟩,
  ⟨(some 51), .ext 1 (.tmp 47), none⟩,
  ⟨(some 4), .mv (.tmp 50), none⟩,
  ⟨(some 5), .mv (.tmp 51), none⟩])
 (.seq (.reg [⟨(some 53), .ld (some 4) (.tmp 3), none⟩,
  ⟨(some 54), .call (.func 16) [(.tmp 53)], none⟩,
  ⟨(some 52), .mv (.tmp 54), none⟩,
  ⟨(some 55), .ext 0 (.tmp 52), none⟩,
  ⟨(some 56), .ext 1 (.tmp 52), none⟩,
  ⟨(some 6), .mv (.tmp 55), none⟩,
  ⟨(some 7), .mv (.tmp 56), none⟩])
 (.seq (.reg [⟨(some 58), .ld (some 4) (.tmp 3), none⟩,
  ⟨(some 59), .call (.func 17) [(.tmp 58)], none⟩,
  ⟨(some 57), .mv (.tmp 59), none⟩,
  ⟨(some 60), .ext 0 (.tmp 57), none⟩,
  ⟨(some 61), .ext 1 (.tmp 57), none⟩,
  ⟨(some 8), .mv (.tmp 60), none⟩,
  ⟨(some 9), .mv (.tmp 61), none⟩])
 (.seq (.reg [⟨(some 63), .ld (some 4) (.tmp 3), none⟩,
  ⟨(some 64), .call (.func 18) [(.tmp 63)], none⟩,
  ⟨(some 62), .mv (.tmp 64), none⟩,
  ⟨(some 65), .ext 0 (.tmp 62), none⟩,
  ⟨(some 66), .ext 1 (.tmp 62), none⟩,
  ⟨(some 10), .mv (.tmp 65), none⟩,
  ⟨(some 11), .mv (.tmp 66), none⟩])
 (.seq (.reg [⟨(some 68), .ld (some 4) (.tmp 3), none⟩,
  ⟨(some 69), .call (.func 19) [(.tmp 68)], none⟩,
  ⟨(some 67), .mv (.tmp 69), none⟩,
  ⟨(some 70), .ext 0 (.tmp 67), none⟩,
  ⟨(some 71), .ext 1 (.tmp 67), none⟩,
  ⟨(some 12), .mv (.tmp 70), none⟩,
  ⟨(some 13), .mv (.tmp 71), none⟩])
 (.seq (.reg [⟨(some 73), .ld (some 4) (.tmp 3), none⟩,
  ⟨(some 74), .call (.func 20) [(.tmp 73)], none⟩,
  ⟨(some 72), .mv (.tmp 74), none⟩,
  ⟨(some 75), .ext 0 (.tmp 72), none⟩,
  ⟨(some 76), .ext 1 (.tmp 72), none⟩,
  ⟨(some 14), .mv (.tmp 75), none⟩,
  ⟨(some 15), .mv (.tmp 76), none⟩])
 (.seq (.reg [⟨(some 78), .mv (.tmp 0), none⟩,
  ⟨(some 79), .call (.func 22) [(.tmp 78), (.const (.int .i64 1))], none⟩,
  ⟨(some 80), .call (.func 21) [(.tmp 79)], none⟩,
  ⟨(some 77), .mv (.tmp 80), none⟩,
  ⟨(some 81), .ext 0 (.tmp 77), none⟩,
  ⟨(some 82), .ext 1 (.tmp 77), none⟩,
  ⟨(some 83), .ext 2 (.tmp 77), none⟩,
  ⟨(some 16), .alc 26 [(.slice none 0 0), (.slice none 0 0), (.slice none 0 0), (.slice none 0 0)], none⟩,
  ⟨none, .st 4 (.tmp 16) (.tmp 81), none⟩,
  ⟨(some 17), .mv (.tmp 82), none⟩,
  ⟨(some 18), .mv (.tmp 83), none⟩])
 (.seq (.reg [⟨(some 85), .ld (some 4) (.tmp 16), none⟩,
  ⟨(some 86), .mv (.tmp 17), none⟩,
  ⟨(some 87), .mv (.tmp 18), none⟩,
  ⟨(some 88), .call (.func 23) [(.tmp 85), (.tmp 86), (.tmp 87)], none⟩,
  ⟨(some 84), .mv (.tmp 88), none⟩,
  ⟨(some 89), .ext 0 (.tmp 84), none⟩,
  ⟨(some 90), .ext 1 (.tmp 84), none⟩,
  ⟨(some 19), .mv (.tmp 89), none⟩,
  ⟨(some 20), .mv (.tmp 90), none⟩])
 (.seq (.reg [⟨(some 92), .ld (some 4) (.tmp 16), none⟩,
  ⟨(some 93), .mv (.tmp 17), none⟩,
  ⟨(some 94), .mv (.tmp 18), none⟩,
  ⟨(some 95), .call (.func 24) [(.tmp 92), (.tmp 93), (.tmp 94)], none⟩,
  ⟨(some 91), .mv (.tmp 95), none⟩,
  ⟨(some 96), .ext 0 (.tmp 91), none⟩,
  ⟨(some 97), .ext 1 (.tmp 91), none⟩,
  ⟨(some 21), .mv (.tmp 96), none⟩,
  ⟨(some 22), .mv (.tmp 97), none⟩])
 (.seq (.reg [⟨(some 99), .ld (some 4) (.tmp 16), none⟩,
  ⟨(some 100), .mv (.tmp 17), none⟩,
  ⟨(some 101), .mv (.tmp 18), none⟩,
  ⟨(some 102), .call (.func 25) [(.tmp 99), (.tmp 100), (.tmp 101)], none⟩,
  ⟨(some 98), .mv (.tmp 102), none⟩,
  ⟨(some 103), .ext 0 (.tmp 98), none⟩,
  ⟨(some 104), .ext 1 (.tmp 98), none⟩,
  ⟨(some 23), .mv (.tmp 103), none⟩,
  ⟨(some 24), .mv (.tmp 104), none⟩])
 (.seq (.reg [⟨(some 106), .ld (some 4) (.tmp 16), none⟩,
  ⟨(some 107), .mv (.tmp 17), none⟩,
  ⟨(some 108), .mv (.tmp 18), none⟩,
  ⟨(some 109), .call (.func 26) [(.tmp 106), (.tmp 107), (.tmp 108)], none⟩,
  ⟨(some 105), .mv (.tmp 109), none⟩,
  ⟨(some 110), .ext 0 (.tmp 105), none⟩,
  ⟨(some 111), .ext 1 (.tmp 105), none⟩,
  ⟨(some 25), .mv (.tmp 110), none⟩,
  ⟨(some 26), .mv (.tmp 111), none⟩])
 (.seq (.seq (.reg [⟨(some 112), .mv (.tmp 5), none⟩,
  ⟨(some 113), .mv (.tmp 7), none⟩,
  ⟨(some 114), .beq true (.tmp 112) (.tmp 113), none⟩,
  ⟨(some 115), .mv (.tmp 114), none⟩,
  ⟨(some 116), .mv (.tmp 4), (some (115, false))⟩,
  ⟨(some 117), .mv (.tmp 6), (some (115, false))⟩,
  ⟨(some 118), .call (.func 27) [(.tmp 116), (.tmp 117)], (some (115, false))⟩,
  ⟨(some 119), .un .not (.tmp 118), (some (115, false))⟩,
  ⟨(some 120), .pick (.tmp 115) (.const (.bool true)) (.tmp 119), none⟩,
  ⟨(some 121), .mv (.tmp 120), none⟩,
  ⟨(some 122), .mv (.tmp 9), (some (121, false))⟩,
  ⟨(some 123), .mv (.tmp 11), (some (121, false))⟩,
  ⟨(some 124), .beq true (.tmp 122) (.tmp 123), (some (121, false))⟩,
  ⟨(some 125), .pick (.tmp 121) (.const (.bool true)) (.tmp 124), none⟩,
  ⟨(some 126), .mv (.tmp 125), none⟩,
  ⟨(some 127), .mv (.tmp 8), (some (126, false))⟩,
  ⟨(some 128), .mv (.tmp 10), (some (126, false))⟩,
  ⟨(some 129), .call (.func 27) [(.tmp 127), (.tmp 128)], (some (126, false))⟩,
  ⟨(some 130), .un .not (.tmp 129), (some (126, false))⟩,
  ⟨(some 131), .pick (.tmp 126) (.const (.bool true)) (.tmp 130), none⟩,
  ⟨(some 132), .mv (.tmp 131), none⟩,
  ⟨(some 133), .mv (.tmp 13), (some (132, false))⟩,
  ⟨(some 134), .mv (.tmp 15), (some (132, false))⟩,
  ⟨(some 135), .beq true (.tmp 133) (.tmp 134), (some (132, false))⟩,
  ⟨(some 136), .pick (.tmp 132) (.const (.bool true)) (.tmp 135), none⟩,
  ⟨(some 137), .mv (.tmp 136), none⟩,
  ⟨(some 138), .mv (.tmp 12), (some (137, false))⟩,
  ⟨(some 139), .mv (.tmp 14), (some (137, false))⟩,
  ⟨(some 140), .call (.func 27) [(.tmp 138), (.tmp 139)], (some (137, false))⟩,
  ⟨(some 141), .un .not (.tmp 140), (some (137, false))⟩,
  ⟨(some 142), .pick (.tmp 137) (.const (.bool true)) (.tmp 141), none⟩,
  ⟨(some 143), .mv (.tmp 142), none⟩,
  ⟨(some 144), .mv (.tmp 19), (some (143, false))⟩,
  ⟨(some 145), .mv (.tmp 21), (some (143, false))⟩,
  ⟨(some 146), .bin .neq (.tmp 144) (.tmp 145), (some (143, false))⟩,
  ⟨(some 147), .pick (.tmp 143) (.const (.bool true)) (.tmp 146), none⟩,
  ⟨(some 148), .mv (.tmp 147), none⟩,
  ⟨(some 149), .mv (.tmp 20), (some (148, false))⟩,
  ⟨(some 150), .mv (.tmp 22), (some (148, false))⟩,
  ⟨(some 151), .beq true (.tmp 149) (.tmp 150), (some (148, false))⟩,
  ⟨(some 152), .pick (.tmp 148) (.const (.bool true)) (.tmp 151), none⟩,
  ⟨(some 153), .mv (.tmp 152), none⟩,
  ⟨(some 154), .mv (.tmp 23), (some (153, false))⟩,
  ⟨(some 155), .mv (.tmp 25), (some (153, false))⟩,
  ⟨(some 156), .bin .neq (.tmp 154) (.tmp 155), (some (153, false))⟩,
  ⟨(some 157), .pick (.tmp 153) (.const (.bool true)) (.tmp 156), none⟩,
  ⟨(some 158), .mv (.tmp 157), none⟩,
  ⟨(some 159), .mv (.tmp 24), (some (158, false))⟩,
  ⟨(some 160), .mv (.tmp 26), (some (158, false))⟩,
  ⟨(some 161), .beq true (.tmp 159) (.tmp 160), (some (158, false))⟩,
  ⟨(some 162), .pick (.tmp 158) (.const (.bool true)) (.tmp 161), none⟩])
 (.cond (.tmp 162) (.seq (.reg [⟨(some 2), .mv (.const (.bool false)), none⟩])
 (.ret)) (.skip)))
 (.seq (.seq (.reg [⟨(some 163), .mv (.tmp 20), none⟩])
 (.cond (.tmp 163) (.seq (.reg [⟨(some 165), .ld (some 4) (.tmp 16), none⟩,
  ⟨(some 166), .mv (.tmp 17), none⟩,
  ⟨(some 167), .mv (.tmp 18), none⟩,
  ⟨(some 168), .call (.func 28) [(.tmp 165), (.tmp 166), (.tmp 167)], none⟩,
  ⟨(some 164), .mv (.tmp 168), none⟩,
  ⟨(some 169), .ext 0 (.tmp 164), none⟩,
  ⟨(some 170), .ext 1 (.tmp 164), none⟩,
  ⟨(some 27), .alc 26 [(.slice none 0 0), (.slice none 0 0), (.slice none 0 0), (.slice none 0 0)], none⟩,
  ⟨none, .st 4 (.tmp 27) (.tmp 169), none⟩,
  ⟨(some 28), .mv (.tmp 170), none⟩])
 (.seq (.reg [⟨(some 172), .ld (some 4) (.tmp 27), none⟩,
  ⟨(some 173), .call (.func 29) [(.tmp 172)], none⟩,
  ⟨(some 171), .mv (.tmp 173), none⟩,
  ⟨(some 174), .ext 0 (.tmp 171), none⟩,
  ⟨(some 175), .ext 1 (.tmp 171), none⟩,
  ⟨(some 29), .mv (.tmp 174), none⟩,
  ⟨(some 30), .mv (.tmp 175), none⟩])
 (.seq (.reg [⟨(some 176), .mv (.tmp 29), none⟩,
  ⟨(some 177), .mv (.tmp 19), none⟩,
  ⟨(some 178), .bin .gtr (.tmp 176) (.tmp 177), none⟩])
 (.cond (.tmp 178) (.seq (.reg [⟨(some 2), .mv (.const (.bool false)), none⟩])
 (.ret)) (.skip))))) (.skip)))
 (.seq (.seq (.reg [⟨(some 179), .mv (.tmp 5), none⟩,
  ⟨(some 180), .un .not (.tmp 179), none⟩])
 (.cond (.tmp 180) (.seq (.reg [⟨(some 2), .mv (.const (.bool true)), none⟩])
 (.ret)) (.skip)))
 (.seq (.reg [⟨(some 181), .fad 0 (.tmp 3), none⟩,
  ⟨(some 182), .ld none (.tmp 181), none⟩,
  ⟨(some 183), .len (.tmp 182), none⟩,
  ⟨(some 31), .mv (.tmp 183), none⟩])
 (.seq (.reg [⟨(some 185), .ld (some 4) (.tmp 3), none⟩,
  ⟨(some 186), .call (.func 29) [(.tmp 185)], none⟩,
  ⟨(some 184), .mv (.tmp 186), none⟩,
  ⟨(some 187), .ext 0 (.tmp 184), none⟩,
  ⟨(some 188), .ext 1 (.tmp 184), none⟩,
  ⟨(some 32), .mv (.tmp 187), none⟩,
  ⟨(some 33), .mv (.tmp 188), none⟩])
 (.seq (.seq (.reg [⟨(some 189), .mv (.tmp 4), none⟩,
  ⟨(some 190), .mv (.tmp 31), none⟩,
  ⟨(some 191), .iad 1 (.tmp 189) (.tmp 190), none⟩,
  ⟨(some 192), .ld none (.tmp 191), none⟩,
  ⟨(some 193), .mv (.tmp 32), none⟩,
  ⟨(some 194), .bin .neq (.tmp 192) (.tmp 193), none⟩,
  ⟨(some 195), .mv (.tmp 194), none⟩,
  ⟨(some 196), .mv (.tmp 8), (some (195, false))⟩,
  ⟨(some 197), .iad 1 (.tmp 196) (.const (.int .i64 0)), (some (195, false))⟩,
  ⟨(some 198), .ld none (.tmp 197), (some (195, false))⟩,
  ⟨(some 199), .mv (.tmp 32), (some (195, false))⟩,
  ⟨(some 200), .bin .neq (.tmp 198) (.tmp 199), (some (195, false))⟩,
  ⟨(some 201), .pick (.tmp 195) (.const (.bool true)) (.tmp 200), none⟩])
 (.cond (.tmp 201) (.seq (.reg [⟨(some 2), .mv (.const (.bool false)), none⟩])
 (.ret)) (.skip)))
 (.seq (.seq (.reg [⟨(some 34), .mv (.const (.int .i64 0)), none⟩])
 (.block 0 (.loop (.seq (.seq (.reg [⟨(some 202), .mv (.tmp 34), none⟩,
  ⟨(some 203), .mv (.tmp 31), none⟩,
  ⟨(some 204), .bin .leq (.tmp 202) (.tmp 203), none⟩])
 (.cond (.tmp 204) (.skip) (.exit 0)))
 (.seq (.block 1 (.seq (.reg [⟨(some 208), .ld (some 4) (.tmp 3), none⟩,
  ⟨(some 209), .mv (.tmp 34), none⟩,
  ⟨(some 210), .call (.func 28) [(.tmp 208), (.const (.int .i64 0)), (.tmp 209)], none⟩,
  ⟨(some 207), .mv (.tmp 210), none⟩,
  ⟨(some 211), .ext 0 (.tmp 207), none⟩,
  ⟨(some 212), .ext 1 (.tmp 207), none⟩,
  ⟨(some 35), .alc 26 [(.slice none 0 0), (.slice none 0 0), (.slice none 0 0), (.slice none 0 0)], none⟩,
  ⟨none, .st 4 (.tmp 35) (.tmp 211), none⟩,
  ⟨(some 36), .mv (.tmp 212), none⟩])
 (.seq (.reg [⟨(some 214), .ld (some 4) (.tmp 3), none⟩,
  ⟨(some 215), .mv (.tmp 34), none⟩,
  ⟨(some 216), .mv (.tmp 31), none⟩,
  ⟨(some 217), .call (.func 28) [(.tmp 214), (.tmp 215), (.tmp 216)], none⟩,
  ⟨(some 213), .mv (.tmp 217), none⟩,
  ⟨(some 218), .ext 0 (.tmp 213), none⟩,
  ⟨(some 219), .ext 1 (.tmp 213), none⟩,
  ⟨(some 37), .alc 26 [(.slice none 0 0), (.slice none 0 0), (.slice none 0 0), (.slice none 0 0)], none⟩,
  ⟨none, .st 4 (.tmp 37) (.tmp 218), none⟩,
  ⟨(some 38), .mv (.tmp 219), none⟩])
 (.seq (.reg [⟨(some 221), .ld (some 4) (.tmp 35), none⟩,
  ⟨(some 222), .call (.func 29) [(.tmp 221)], none⟩,
  ⟨(some 220), .mv (.tmp 222), none⟩,
  ⟨(some 223), .ext 0 (.tmp 220), none⟩,
  ⟨(some 224), .ext 1 (.tmp 220), none⟩,
  ⟨(some 39), .mv (.tmp 223), none⟩,
  ⟨(some 40), .mv (.tmp 224), none⟩])
 (.seq (.reg [⟨(some 226), .ld (some 4) (.tmp 37), none⟩,
  ⟨(some 227), .call (.func 29) [(.tmp 226)], none⟩,
  ⟨(some 225), .mv (.tmp 227), none⟩,
  ⟨(some 228), .ext 0 (.tmp 225), none⟩,
  ⟨(some 229), .ext 1 (.tmp 225), none⟩,
  ⟨(some 41), .mv (.tmp 228), none⟩,
  ⟨(some 42), .mv (.tmp 229), none⟩])
 (.seq (.reg [⟨(some 230), .mv (.tmp 36), none⟩,
  ⟨(some 231), .un .not (.tmp 230), none⟩,
  ⟨(some 232), .mv (.tmp 231), none⟩,
  ⟨(some 233), .mv (.tmp 38), (some (232, false))⟩,
  ⟨(some 234), .un .not (.tmp 233), (some (232, false))⟩,
  ⟨(some 235), .pick (.tmp 232) (.const (.bool true)) (.tmp 234), none⟩,
  ⟨(some 236), .mv (.tmp 235), none⟩,
  ⟨(some 237), .mv (.tmp 4), (some (236, false))⟩,
  ⟨(some 238), .mv (.tmp 34), (some (236, false))⟩,
  ⟨(some 239), .iad 1 (.tmp 237) (.tmp 238), (some (236, false))⟩,
  ⟨(some 240), .ld none (.tmp 239), (some (236, false))⟩,
  ⟨(some 241), .mv (.tmp 39), (some (236, false))⟩,
  ⟨(some 242), .bin .neq (.tmp 240) (.tmp 241), (some (236, false))⟩,
  ⟨(some 243), .pick (.tmp 236) (.const (.bool true)) (.tmp 242), none⟩,
  ⟨(some 244), .mv (.tmp 243), none⟩,
  ⟨(some 245), .mv (.tmp 8), (some (244, false))⟩,
  ⟨(some 246), .mv (.tmp 34), (some (244, false))⟩,
  ⟨(some 247), .iad 1 (.tmp 245) (.tmp 246), (some (244, false))⟩,
  ⟨(some 248), .ld none (.tmp 247), (some (244, false))⟩,
  ⟨(some 249), .mv (.tmp 41), (some (244, false))⟩,
  ⟨(some 250), .bin .neq (.tmp 248) (.tmp 249), (some (244, false))⟩,
  ⟨(some 251), .pick (.tmp 244) (.const (.bool true)) (.tmp 250), none⟩,
  ⟨(some 252), .mv (.tmp 251), none⟩,
  ⟨(some 253), .mv (.tmp 39), (some (252, false))⟩,
  ⟨(some 254), .mv (.tmp 41), (some (252, false))⟩,
  ⟨(some 255), .bin .add (.tmp 253) (.tmp 254), (some (252, false))⟩,
  ⟨(some 256), .mv (.tmp 32), (some (252, false))⟩,
  ⟨(some 257), .bin .lss (.tmp 255) (.tmp 256), (some (252, false))⟩,
  ⟨(some 258), .pick (.tmp 252) (.const (.bool true)) (.tmp 257), none⟩,
  ⟨(some 259), .mv (.tmp 258), none⟩,
  ⟨(some 260), .mv (.tmp 12), (some (259, false))⟩,
  ⟨(some 261), .mv (.tmp 34), (some (259, false))⟩,
  ⟨(some 262), .call (.func 30) [(.tmp 260), (.tmp 261)], (some (259, false))⟩,
  ⟨(some 263), .mv (.tmp 39), (some (259, false))⟩,
  ⟨(some 264), .mv (.tmp 41), (some (259, false))⟩,
  ⟨(some 265), .bin .add (.tmp 263) (.tmp 264), (some (259, false))⟩,
  ⟨(some 266), .mv (.tmp 32), (some (259, false))⟩,
  ⟨(some 267), .bin .eql (.tmp 265) (.tmp 266), (some (259, false))⟩,
  ⟨(some 268), .beq true (.tmp 262) (.tmp 267), (some (259, false))⟩,
  ⟨(some 269), .pick (.tmp 259) (.const (.bool true)) (.tmp 268), none⟩])
 (.cond (.tmp 269) (.seq (.reg [⟨(some 2), .mv (.const (.bool false)), none⟩])
 (.ret)) (.skip))))))))
 (.reg [⟨(some 205), .mv (.tmp 34), none⟩,
  ⟨(some 206), .bin .add (.tmp 205) (.const (.int .i64 1)), none⟩,
  ⟨(some 34), .mv (.tmp 206), none⟩]))))))
 (.seq (.reg [⟨(some 2), .mv (.const (.bool true)), none⟩])
 (.ret))))))))))))))))))))))
def r_laws_FnForwardCosts : List ARes := [.tmp 2]
theorem ok_laws_FnForwardCosts : FnOk Try.prog 3 270 c_laws_FnForwardCosts r_laws_FnForwardCosts := ⟨⟨Try.f3, _, Try.func3, by kernel_rfl, rfl, rfl, by kernel_rfl, by kernel_rfl⟩⟩
end Go.Proofs.Ytncajinepljdhaa.Ab
end
section
namespace Go.Proofs.Ytncajinepljdhaa.Ab
open Go Go.RowKit
set_option linter.unusedVariables false
set_option linter.unusedSimpArgs false
set_option maxRecDepth 100000
theorem AnsC.case {m new : Mem} {k : Cs} {r : Value} (h : AnsC m k true r new) : ∃ (w1 w2 w3 w4 : Value), r = .tuple #[.agg #[w1, w2, w3, w4], .bool true] ∧ CaseA (m ++ new) (.agg #[w1, w2, w3, w4]) k ∧ NoRo new := by
  obtain ⟨nr, sm, h⟩ := h
  rcases h with ⟨-, i1, i2, i3, i4, f1, f2, f3, f4, rfl, r1, r2, r3, r4, -⟩ | ⟨h, -⟩
  · unfold Cs.small at sm
    exact ⟨_, _, _, _, rfl, ⟨_, _, _, _, rfl, (OwnR.new r1 rfl).ints (by omega) _, (OwnR.new r2 rfl).ints (by omega) _, (OwnR.new r3 rfl).ints (by omega) _, (OwnR.new r4 rfl).ints (by omega) _⟩, nr⟩
  · cases h
theorem box_new {M M0 : Mem} {v1 v2 v3 v4 : Value} {k : Cs} (hc : CaseA M0 (.agg #[v1, v2, v3, v4]) k) :
    stA (M ++ [(⟨.own, 26, [.slice none 0 0, .slice none 0 0, .slice none 0 0, .slice none 0 0]⟩ : Blk)]) M.length 0 [v1, v2, v3, v4] = some (M ++ [⟨.own, 26, [v1, v2, v3, v4]⟩]) ∧
    (rdc (M ++ [(⟨.own, 26, [v1, v2, v3, v4]⟩ : Blk)]) M.length 0 = some v1 ∧ rdc (M ++ [(⟨.own, 26, [v1, v2, v3, v4]⟩ : Blk)]) M.length 1 = some v2 ∧ rdc (M ++ [(⟨.own, 26, [v1, v2, v3, v4]⟩ : Blk)]) M.length 2 = some v3 ∧ rdc (M ++ [(⟨.own, 26, [v1, v2, v3, v4]⟩ : Blk)]) M.length 3 = some v4) := by
  have hx : (M ++ [(⟨.own, 26, [.slice none 0 0, .slice none 0 0, .slice none 0 0, .slice none 0 0]⟩ : Blk)])[M.length]? = some ⟨.own, 26, [.slice none 0 0, .slice none 0 0, .slice none 0 0, .slice none 0 0]⟩ := by simp
  obtain ⟨s1, r1⟩ := cell_st hx rfl hc
  have e2 : (M ++ [(⟨.own, 26, [.slice none 0 0, .slice none 0 0, .slice none 0 0, .slice none 0 0]⟩ : Blk)]).set M.length ⟨.own, 26, [v1, v2, v3, v4]⟩ = M ++ [⟨.own, 26, [v1, v2, v3, v4]⟩] := by simp
  rw [e2] at s1 r1
  exact ⟨s1, r1 0, r1 1, r1 2, r1 3⟩
def BoxK (M : Mem) (bd : Nat) (v1 v2 v3 v4 : Value) : Prop := rdc M bd 0 = some v1 ∧ rdc M bd 1 = some v2 ∧ rdc M bd 2 = some v3 ∧ rdc M bd 3 = some v4
theorem BoxK.ext {M : Mem} {bd : Nat} {v1 v2 v3 v4 : Value} (h : BoxK M bd v1 v2 v3 v4) (new : Mem) : BoxK (M ++ new) bd v1 v2 v3 v4 := ⟨rdc_ext h.1, rdc_ext h.2.1, rdc_ext h.2.2.1, rdc_ext h.2.2.2⟩
theorem BoxK.ld {M : Mem} {bd : Nat} {v1 v2 v3 v4 : Value} (h : BoxK M bd v1 v2 v3 v4) : ldA M (some 4) (.pointer (some ⟨bd, 0, none⟩)) = some (.agg #[v1, v2, v3, v4]) := by
  obtain ⟨h1, h2, h3, h4⟩ := h
  simp [ldA, rdn, h1, h2, h3, h4]
theorem turn_mem (k : Cs) (x n : Nat) : ((x : Int) ∈ turnP k n) ↔ (x < n ∧ turnAt k x = true) := by
  induction n with
  | zero => simp [turnP]
  | succ n ih =>
    rw [turnP]
    by_cases hf : turnAt k n = true
    · rw [if_pos hf, List.mem_append, ih]
      constructor
      · rintro (⟨h1, h2⟩ | h)
        · exact ⟨by omega, h2⟩
        · have h0 : (x : Int) = n := by simpa using h
          have : x = n := by omega
          rw [this]; exact ⟨by omega, hf⟩
      · rintro ⟨h1, h2⟩
        by_cases e : x = n
        · right; rw [e]; simp
        · left; exact ⟨by omega, h2⟩
    · rw [if_neg hf, ih]
      constructor
      · rintro ⟨h1, h2⟩; exact ⟨by omega, h2⟩
      · rintro ⟨h1, h2⟩
        refine ⟨?_, h2⟩
        rcases Nat.lt_or_ge x n with g | g
        · exact g
        · have : x = n := by omega
          rw [this] at h2; exact absurd h2 hf

set_option maxHeartbeats 16000000 in
theorem law_FnForwardCosts (l : List Int) (hb : ∀ x ∈ l, 0 ≤ x ∧ x ≤ 255) :
    AC Try.prog 3 [.slice (some ⟨0, 0, none⟩) l.length 0] [⟨.ro, 5, l.map (Value.int .u8)⟩] fun r _ => r = .bool true := by
  refine ac_of_run mixed ok_laws_FnForwardCosts (by simp) (go_start _ _ _ ?_)
  simp (config := {implicitDefEqProofs := false, maxDischargeDepth := 20}) (disch := first | omega | (simp only [lenE]; done) | (simp only [lenE]; omega) | rfl | (simp only [lenE, markR_len]; done) | (simp only [lenE, markR_len]; omega)) only [runE, mapE, listE, initT_5, initT_6, initT_7, initT_8, resV, oneV, binA, unA, reduceCtorEq, Nat.reduceEqDiff, Nat.reduceAdd, Nat.reduceLT, Nat.reduceLeDiff, Nat.reduceMul, Nat.reduceSub, ↓reduceIte, decide_true, decide_false, Bool.true_eq_false, Bool.false_eq_true, Bool.not_true, Bool.not_false, if_true, if_false, and_true, true_and, memE, celE, w64, Nat.zero_add, Nat.add_zero, Nat.mul_one, putL, and_self, ldn, c_laws_FnForwardCosts, r_laws_FnForwardCosts]
  refine callH_rc (vBig_rc _ 0 0 l.length) ?_
  rintro r new ⟨rfl, rfl⟩
  by_cases hbig : 65536 < l.length
  · simp (config := {implicitDefEqProofs := false, maxDischargeDepth := 20}) (disch := first | omega | (simp only [lenE]; done) | (simp only [lenE]; omega) | rfl | (simp only [lenE, markR_len]; done) | (simp only [lenE, markR_len]; omega)) only [runE, mapE, listE, initT_5, initT_6, initT_7, initT_8, resV, oneV, binA, unA, reduceCtorEq, Nat.reduceEqDiff, Nat.reduceAdd, Nat.reduceLT, Nat.reduceLeDiff, Nat.reduceMul, Nat.reduceSub, ↓reduceIte, decide_true, decide_false, Bool.true_eq_false, Bool.false_eq_true, Bool.not_true, Bool.not_false, if_true, if_false, and_true, true_and, memE, celE, w64, Nat.zero_add, Nat.add_zero, Nat.mul_one, putL, and_self, ldn, decide_eq_true hbig]
  have hB : BytesA [⟨.ro, 5, l.map (Value.int .u8)⟩] 0 l := ⟨⟨.ro, by simp, rfl⟩, hb, by omega⟩
  obtain ⟨M0, hM0⟩ : ∃ M : Mem, M = [⟨.ro, 5, l.map (Value.int .u8)⟩] := ⟨_, rfl⟩
  rw [← hM0] at hB
  rw [List.append_nil, ← hM0]
  clear hM0
  simp (config := {implicitDefEqProofs := false, maxDischargeDepth := 20}) (disch := first | omega | (simp only [lenE]; done) | (simp only [lenE]; omega) | rfl | (simp only [lenE, markR_len]; done) | (simp only [lenE, markR_len]; omega)) only [runE, mapE, listE, initT_5, initT_6, initT_7, initT_8, resV, oneV, binA, unA, reduceCtorEq, Nat.reduceEqDiff, Nat.reduceAdd, Nat.reduceLT, Nat.reduceLeDiff, Nat.reduceMul, Nat.reduceSub, ↓reduceIte, decide_true, decide_false, Bool.true_eq_false, Bool.false_eq_true, Bool.not_true, Bool.not_false, if_true, if_false, and_true, true_and, memE, celE, w64, Nat.zero_add, Nat.add_zero, Nat.mul_one, putL, and_self, ldn, decide_eq_false hbig]
  refine callH_rc (DrawForwardCosts_rc _ 0 0 l hB) ?_
  rintro r new ⟨nr, v1, v2, v3, v4, k, rfl, lv⟩
  have hc0 := lv.here
  have hB1 := hB.ext new
  obtain ⟨M1, hM1⟩ : ∃ M, M = M0 ++ new := ⟨_, rfl⟩
  rw [← hM1] at hc0 hB1 ⊢
  obtain ⟨s1, x1⟩ := box_new (M := M1) hc0
  have c1 := hc0.ext [(⟨.own, 26, [v1, v2, v3, v4]⟩ : Blk)]
  have b1 := hB1.ext [(⟨.own, 26, [v1, v2, v3, v4]⟩ : Blk)]
  simp (config := {implicitDefEqProofs := false, maxDischargeDepth := 20}) (disch := first | omega | (simp only [lenE]; done) | (simp only [lenE]; omega) | rfl | (simp only [lenE, markR_len]; done) | (simp only [lenE, markR_len]; omega)) only [runE, mapE, listE, initT_5, initT_6, initT_7, initT_8, resV, oneV, binA, unA, reduceCtorEq, Nat.reduceEqDiff, Nat.reduceAdd, Nat.reduceLT, Nat.reduceLeDiff, Nat.reduceMul, Nat.reduceSub, ↓reduceIte, decide_true, decide_false, Bool.true_eq_false, Bool.false_eq_true, Bool.not_true, Bool.not_false, if_true, if_false, and_true, true_and, memE, celE, w64, Nat.zero_add, Nat.add_zero, Nat.mul_one, putL, and_self, ldn, stP_aggL, s1]
  clear s1 hc0 hB1 hB lv hM1 nr
  generalize M1 ++ [(⟨.own, 26, [v1, v2, v3, v4]⟩ : Blk)] = M at *
  generalize M1.length = bd at *
  obtain ⟨K, hK⟩ : ∃ K : Mem → Prop, K = fun M => CaseA M (.agg #[v1, v2, v3, v4]) k ∧ BoxK M bd v1 v2 v3 v4 ∧ BytesA M 0 l := ⟨_, rfl⟩
  have K0 : K M := by rw [hK]; exact ⟨c1, x1, b1⟩
  have Kx : ∀ {M : Mem} (new : Mem), K M → K (M ++ new) := fun {M} new h => by
    rw [hK] at h ⊢
    exact ⟨h.1.ext _, h.2.1.ext _, h.2.2.ext _⟩
  have kC : ∀ {M}, K M → CaseA M (.agg #[v1, v2, v3, v4]) k := fun h => by rw [hK] at h; exact h.1
  have kL : ∀ {M}, K M → ldA M (some 4) (.pointer (some ⟨bd, 0, none⟩)) = some (.agg #[v1, v2, v3, v4]) := fun h => by rw [hK] at h; exact h.2.1.ld
  have k0 : ∀ {M}, K M → rdc M bd 0 = some v1 := fun h => by rw [hK] at h; exact h.2.1.1
  have kB : ∀ {M}, K M → BytesA M 0 l := fun h => by rw [hK] at h; exact h.2.2
  have kN : ∀ {M}, K M → IntsA M v1 k.need := fun h => by
    obtain ⟨w1, w2, w3, w4, ee, i1, -, -, -⟩ := (kC h).ok
    cases ee
    exact i1
  clear hK c1 b1 x1
  obtain ⟨ok, hok⟩ : ∃ t, t = k.good := ⟨_, rfl⟩
  obtain ⟨fo, hfo⟩ : ∃ t, t = forwardA k := ⟨_, rfl⟩
  obtain ⟨ba, hba⟩ : ∃ t, t = backA k := ⟨_, rfl⟩
  obtain ⟨tu, htu⟩ : ∃ t, t = turnA k := ⟨_, rfl⟩
  have C1 : ∀ M, K M → RC Try.prog 15 [.agg #[v1, v2, v3, v4]] M (AnsL M fo ok) := fun M h => by rw [hfo, hok]; exact implForward_rc _ _ k (kC h)
  have C2 : ∀ M, K M → RC Try.prog 16 [.agg #[v1, v2, v3, v4]] M (AnsL M fo ok) := fun M h => by rw [hfo, hok]; exact specForward_rc _ _ k (kC h)
  have C3 : ∀ M, K M → RC Try.prog 17 [.agg #[v1, v2, v3, v4]] M (AnsL M ba ok) := fun M h => by rw [hba, hok]; exact implBack_rc _ _ k (kC h)
  have C4 : ∀ M, K M → RC Try.prog 18 [.agg #[v1, v2, v3, v4]] M (AnsL M ba ok) := fun M h => by rw [hba, hok]; exact specBack_rc _ _ k (kC h)
  have C5 : ∀ M, K M → RC Try.prog 19 [.agg #[v1, v2, v3, v4]] M (AnsL M tu ok) := fun M h => by rw [htu, hok]; exact implTurn_rc _ _ k (kC h)
  have C6 : ∀ M, K M → RC Try.prog 20 [.agg #[v1, v2, v3, v4]] M (AnsL M tu ok) := fun M h => by rw [htu, hok]; exact specTurn_rc _ _ k (kC h)
  refine callH_rc (C1 _ K0) ?_
  intro r new hA
  obtain ⟨Ri, Rf, rfl, -, R0, Rle, nr⟩ := hA.row
  clear hA
  have K1 := Kx new K0
  obtain ⟨N1, hN1⟩ : ∃ N, N = M ++ new := ⟨_, rfl⟩
  rw [← hN1] at K1 R0 ⊢
  clear hN1 K0
  have R1 := R0
  clear R0 nr
  simp (config := {implicitDefEqProofs := false, maxDischargeDepth := 20}) (disch := first | omega | (simp only [lenE]; done) | (simp only [lenE]; omega) | rfl | (simp only [lenE, markR_len]; done) | (simp only [lenE, markR_len]; omega)) only [runE, mapE, listE, initT_5, initT_6, initT_7, initT_8, resV, oneV, binA, unA, reduceCtorEq, Nat.reduceEqDiff, Nat.reduceAdd, Nat.reduceLT, Nat.reduceLeDiff, Nat.reduceMul, Nat.reduceSub, ↓reduceIte, decide_true, decide_false, Bool.true_eq_false, Bool.false_eq_true, Bool.not_true, Bool.not_false, if_true, if_false, and_true, true_and, memE, celE, w64, Nat.zero_add, Nat.add_zero, Nat.mul_one, putL, and_self, ldn, kL K1, ext_2_0, ext_2_1, ext_3_0, ext_3_1, ext_3_2, bne_self_eq_false, beq_self_eq_true, goG_undef]
  refine callH_rc (C2 _ K1) ?_
  intro r new hA
  obtain ⟨Si, Sf, rfl, -, S0, Sle, nr⟩ := hA.row
  clear hA
  have K2 := Kx new K1
  have R2 := R1.ext new
  obtain ⟨N2, hN2⟩ : ∃ N, N = N1 ++ new := ⟨_, rfl⟩
  rw [← hN2] at K2 R2 S0 ⊢
  clear hN2 R1 K1
  have S2 := S0
  clear S0 nr
  simp (config := {implicitDefEqProofs := false, maxDischargeDepth := 20}) (disch := first | omega | (simp only [lenE]; done) | (simp only [lenE]; omega) | rfl | (simp only [lenE, markR_len]; done) | (simp only [lenE, markR_len]; omega)) only [runE, mapE, listE, initT_5, initT_6, initT_7, initT_8, resV, oneV, binA, unA, reduceCtorEq, Nat.reduceEqDiff, Nat.reduceAdd, Nat.reduceLT, Nat.reduceLeDiff, Nat.reduceMul, Nat.reduceSub, ↓reduceIte, decide_true, decide_false, Bool.true_eq_false, Bool.false_eq_true, Bool.not_true, Bool.not_false, if_true, if_false, and_true, true_and, memE, celE, w64, Nat.zero_add, Nat.add_zero, Nat.mul_one, putL, and_self, ldn, kL K2, ext_2_0, ext_2_1, ext_3_0, ext_3_1, ext_3_2, bne_self_eq_false, beq_self_eq_true, goG_undef]
  refine callH_rc (C3 _ K2) ?_
  intro r new hA
  obtain ⟨Ti, Tf, rfl, -, T0, Tle, nr⟩ := hA.row
  clear hA
  have K3 := Kx new K2
  have R3 := R2.ext new
  have S3 := S2.ext new
  obtain ⟨N3, hN3⟩ : ∃ N, N = N2 ++ new := ⟨_, rfl⟩
  rw [← hN3] at K3 R3 S3 T0 ⊢
  clear hN3 R2 S2 K2
  have T3 := T0
  clear T0 nr
  simp (config := {implicitDefEqProofs := false, maxDischargeDepth := 20}) (disch := first | omega | (simp only [lenE]; done) | (simp only [lenE]; omega) | rfl | (simp only [lenE, markR_len]; done) | (simp only [lenE, markR_len]; omega)) only [runE, mapE, listE, initT_5, initT_6, initT_7, initT_8, resV, oneV, binA, unA, reduceCtorEq, Nat.reduceEqDiff, Nat.reduceAdd, Nat.reduceLT, Nat.reduceLeDiff, Nat.reduceMul, Nat.reduceSub, ↓reduceIte, decide_true, decide_false, Bool.true_eq_false, Bool.false_eq_true, Bool.not_true, Bool.not_false, if_true, if_false, and_true, true_and, memE, celE, w64, Nat.zero_add, Nat.add_zero, Nat.mul_one, putL, and_self, ldn, kL K3, ext_2_0, ext_2_1, ext_3_0, ext_3_1, ext_3_2, bne_self_eq_false, beq_self_eq_true, goG_undef]
  refine callH_rc (C4 _ K3) ?_
  intro r new hA
  obtain ⟨Ui, Uf, rfl, -, U0, Ule, nr⟩ := hA.row
  clear hA
  have K4 := Kx new K3
  have R4 := R3.ext new
  have S4 := S3.ext new
  have T4 := T3.ext new
  obtain ⟨N4, hN4⟩ : ∃ N, N = N3 ++ new := ⟨_, rfl⟩
  rw [← hN4] at K4 R4 S4 T4 U0 ⊢
  clear hN4 R3 S3 T3 K3
  have U4 := U0
  clear U0 nr
  simp (config := {implicitDefEqProofs := false, maxDischargeDepth := 20}) (disch := first | omega | (simp only [lenE]; done) | (simp only [lenE]; omega) | rfl | (simp only [lenE, markR_len]; done) | (simp only [lenE, markR_len]; omega)) only [runE, mapE, listE, initT_5, initT_6, initT_7, initT_8, resV, oneV, binA, unA, reduceCtorEq, Nat.reduceEqDiff, Nat.reduceAdd, Nat.reduceLT, Nat.reduceLeDiff, Nat.reduceMul, Nat.reduceSub, ↓reduceIte, decide_true, decide_false, Bool.true_eq_false, Bool.false_eq_true, Bool.not_true, Bool.not_false, if_true, if_false, and_true, true_and, memE, celE, w64, Nat.zero_add, Nat.add_zero, Nat.mul_one, putL, and_self, ldn, kL K4, ext_2_0, ext_2_1, ext_3_0, ext_3_1, ext_3_2, bne_self_eq_false, beq_self_eq_true, goG_undef]
  refine callH_rc (C5 _ K4) ?_
  intro r new hA
  obtain ⟨Vi, Vf, rfl, -, V0, Vle, nr⟩ := hA.row
  clear hA
  have K5 := Kx new K4
  have R5 := R4.ext new
  have S5 := S4.ext new
  have T5 := T4.ext new
  have U5 := U4.ext new
  obtain ⟨N5, hN5⟩ : ∃ N, N = N4 ++ new := ⟨_, rfl⟩
  rw [← hN5] at K5 R5 S5 T5 U5 V0 ⊢
  clear hN5 R4 S4 T4 U4 K4
  have V5 := V0
  clear V0 nr
  simp (config := {implicitDefEqProofs := false, maxDischargeDepth := 20}) (disch := first | omega | (simp only [lenE]; done) | (simp only [lenE]; omega) | rfl | (simp only [lenE, markR_len]; done) | (simp only [lenE, markR_len]; omega)) only [runE, mapE, listE, initT_5, initT_6, initT_7, initT_8, resV, oneV, binA, unA, reduceCtorEq, Nat.reduceEqDiff, Nat.reduceAdd, Nat.reduceLT, Nat.reduceLeDiff, Nat.reduceMul, Nat.reduceSub, ↓reduceIte, decide_true, decide_false, Bool.true_eq_false, Bool.false_eq_true, Bool.not_true, Bool.not_false, if_true, if_false, and_true, true_and, memE, celE, w64, Nat.zero_add, Nat.add_zero, Nat.mul_one, putL, and_self, ldn, kL K5, ext_2_0, ext_2_1, ext_3_0, ext_3_1, ext_3_2, bne_self_eq_false, beq_self_eq_true, goG_undef]
  refine callH_rc (C6 _ K5) ?_
  intro r new hA
  obtain ⟨Wi, Wf, rfl, -, W0, Wle, nr⟩ := hA.row
  clear hA
  have K6 := Kx new K5
  have R6 := R5.ext new
  have S6 := S5.ext new
  have T6 := T5.ext new
  have U6 := U5.ext new
  have V6 := V5.ext new
  obtain ⟨N6, hN6⟩ : ∃ N, N = N5 ++ new := ⟨_, rfl⟩
  rw [← hN6] at K6 R6 S6 T6 U6 V6 W0 ⊢
  clear hN6 R5 S5 T5 U5 V5 K5
  have W6 := W0
  clear W0 nr
  simp (config := {implicitDefEqProofs := false, maxDischargeDepth := 20}) (disch := first | omega | (simp only [lenE]; done) | (simp only [lenE]; omega) | rfl | (simp only [lenE, markR_len]; done) | (simp only [lenE, markR_len]; omega)) only [runE, mapE, listE, initT_5, initT_6, initT_7, initT_8, resV, oneV, binA, unA, reduceCtorEq, Nat.reduceEqDiff, Nat.reduceAdd, Nat.reduceLT, Nat.reduceLeDiff, Nat.reduceMul, Nat.reduceSub, ↓reduceIte, decide_true, decide_false, Bool.true_eq_false, Bool.false_eq_true, Bool.not_true, Bool.not_false, if_true, if_false, and_true, true_and, memE, celE, w64, Nat.zero_add, Nat.add_zero, Nat.mul_one, putL, and_self, ldn, kL K6, ext_2_0, ext_2_1, ext_3_0, ext_3_1, ext_3_2, bne_self_eq_false, beq_self_eq_true, goG_undef]
  refine callH_rc (vCut_rc _ 0 0 1 l (kB K6) (by omega) (by omega)) ?_
  rintro r new ⟨nr, ci, l2, rfl, hrow, hb2, hl2⟩
  have Bn : BytesA (N6 ++ new) (N6.length + ci) l2 := ⟨⟨.own, by simp, by rw [List.getElem?_append_right (by omega), Nat.add_sub_cancel_left]; exact hrow⟩, hb2, hl2⟩
  have K7 := Kx new K6
  have R7 := R6.ext new
  have S7 := S6.ext new
  have T7 := T6.ext new
  have U7 := U6.ext new
  have V7 := V6.ext new
  have W7 := W6.ext new
  obtain ⟨N7, hN7⟩ : ∃ N, N = N6 ++ new := ⟨_, rfl⟩
  rw [← hN7] at K7 R7 S7 T7 U7 V7 W7 Bn ⊢
  clear hN7 R6 S6 T6 U6 V6 W6 K6
  generalize N6.length + ci = cb2 at *
  clear nr hrow
  simp (config := {implicitDefEqProofs := false, maxDischargeDepth := 20}) (disch := first | omega | (simp only [lenE]; done) | (simp only [lenE]; omega) | rfl | (simp only [lenE, markR_len]; done) | (simp only [lenE, markR_len]; omega)) only [runE, mapE, listE, initT_5, initT_6, initT_7, initT_8, resV, oneV, binA, unA, reduceCtorEq, Nat.reduceEqDiff, Nat.reduceAdd, Nat.reduceLT, Nat.reduceLeDiff, Nat.reduceMul, Nat.reduceSub, ↓reduceIte, decide_true, decide_false, Bool.true_eq_false, Bool.false_eq_true, Bool.not_true, Bool.not_false, if_true, if_false, and_true, true_and, memE, celE, w64, Nat.zero_add, Nat.add_zero, Nat.mul_one, putL, and_self, ldn, kL K7, ext_2_0, ext_2_1, ext_3_0, ext_3_1, ext_3_2, bne_self_eq_false, beq_self_eq_true, goG_undef]
  refine callH_rc (DrawSpanCost_rc _ cb2 1 l2 Bn) ?_
  rintro r new ⟨nr, u1, u2, u3, u4, c, i, j, rfl, lv⟩
  have hd := lv.here
  have K8 := Kx new K7
  have R8 := R7.ext new
  have S8 := S7.ext new
  have T8 := T7.ext new
  have U8 := U7.ext new
  have V8 := V7.ext new
  have W8 := W7.ext new
  obtain ⟨N8, hN8⟩ : ∃ N, N = N7 ++ new := ⟨_, rfl⟩
  rw [← hN8] at K8 R8 S8 T8 U8 V8 W8 hd ⊢
  clear hN8 R7 S7 T7 U7 V7 W7 K7
  clear lv nr Bn
  obtain ⟨s1, x1⟩ := box_new (M := N8) hd
  simp (config := {implicitDefEqProofs := false, maxDischargeDepth := 20}) (disch := first | omega | (simp only [lenE]; done) | (simp only [lenE]; omega) | rfl | (simp only [lenE, markR_len]; done) | (simp only [lenE, markR_len]; omega)) only [runE, mapE, listE, initT_5, initT_6, initT_7, initT_8, resV, oneV, binA, unA, reduceCtorEq, Nat.reduceEqDiff, Nat.reduceAdd, Nat.reduceLT, Nat.reduceLeDiff, Nat.reduceMul, Nat.reduceSub, ↓reduceIte, decide_true, decide_false, Bool.true_eq_false, Bool.false_eq_true, Bool.not_true, Bool.not_false, if_true, if_false, and_true, true_and, memE, celE, w64, Nat.zero_add, Nat.add_zero, Nat.mul_one, putL, and_self, ldn, stP_aggL, s1, kL K8, ext_2_0, ext_2_1, ext_3_0, ext_3_1, ext_3_2, bne_self_eq_false, beq_self_eq_true, goG_undef]
  clear s1
  obtain ⟨new, hnew⟩ : ∃ new : Mem, new = [(⟨.own, 26, [u1, u2, u3, u4]⟩ : Blk)] := ⟨_, rfl⟩
  rw [← hnew] at x1 ⊢
  have hd1 := hd.ext new
  clear hd hnew
  have K9 := Kx new K8
  have R9 := R8.ext new
  have S9 := S8.ext new
  have T9 := T8.ext new
  have U9 := U8.ext new
  have V9 := V8.ext new
  have W9 := W8.ext new
  obtain ⟨N9, hN9⟩ : ∃ N, N = N8 ++ new := ⟨_, rfl⟩
  rw [← hN9] at K9 R9 S9 T9 U9 V9 W9 x1 hd1 ⊢
  clear hN9 R8 S8 T8 U8 V8 W8 K8
  generalize N8.length = be at *
  obtain ⟨Q, hQ⟩ : ∃ Q : Mem → Prop, Q = fun M => CaseA M (.agg #[u1, u2, u3, u4]) c ∧ BoxK M be u1 u2 u3 u4 := ⟨_, rfl⟩
  have Q9 : Q N9 := by rw [hQ]; exact ⟨hd1, x1⟩
  have Qx : ∀ {M : Mem} (new : Mem), Q M → Q (M ++ new) := fun {M} new h => by rw [hQ] at h ⊢; exact ⟨h.1.ext _, h.2.ext _⟩
  have qC : ∀ {M}, Q M → CaseA M (.agg #[u1, u2, u3, u4]) c := fun h => by rw [hQ] at h; exact h.1
  have qL : ∀ {M}, Q M → ldA M (some 4) (.pointer (some ⟨be, 0, none⟩)) = some (.agg #[u1, u2, u3, u4]) := fun h => by rw [hQ] at h; exact h.2.ld
  clear hQ x1 hd1
  obtain ⟨one, hone⟩ : ∃ t, t = spanOk c i j := ⟨_, rfl⟩
  obtain ⟨sp, hsp⟩ : ∃ t, t = spanA c i j := ⟨_, rfl⟩
  obtain ⟨rb, hrb⟩ : ∃ t, t = rateOk c i j := ⟨_, rfl⟩
  obtain ⟨ra, hra⟩ : ∃ t, t = rateA c i j := ⟨_, rfl⟩
  have E1 : ∀ M, Q M → RC Try.prog 23 [.agg #[u1, u2, u3, u4], .int .i64 i, .int .i64 j] M (AnsV (.tuple #[.int .i64 sp, .bool one])) := fun M h => by rw [hsp, hone]; exact implSpan_rc _ _ c i j (qC h)
  have E2 : ∀ M, Q M → RC Try.prog 24 [.agg #[u1, u2, u3, u4], .int .i64 i, .int .i64 j] M (AnsV (.tuple #[.int .i64 sp, .bool one])) := fun M h => by rw [hsp, hone]; exact specSpan_rc _ _ c i j (qC h)
  have E3 : ∀ M, Q M → RC Try.prog 25 [.agg #[u1, u2, u3, u4], .int .i64 i, .int .i64 j] M (AnsV (.tuple #[.int .i64 ra, .bool rb])) := fun M h => by rw [hra, hrb]; exact implRateOf_rc _ _ c i j (qC h)
  have E4 : ∀ M, Q M → RC Try.prog 26 [.agg #[u1, u2, u3, u4], .int .i64 i, .int .i64 j] M (AnsV (.tuple #[.int .i64 ra, .bool rb])) := fun M h => by rw [hra, hrb]; exact specRateOf_rc _ _ c i j (qC h)
  refine callH_rc (E1 _ Q9) ?_
  rintro r new ⟨rfl, nr⟩
  have K10 := Kx new K9
  have Q10 := Qx new Q9
  have R10 := R9.ext new
  have S10 := S9.ext new
  have T10 := T9.ext new
  have U10 := U9.ext new
  have V10 := V9.ext new
  have W10 := W9.ext new
  obtain ⟨N10, hN10⟩ : ∃ N, N = N9 ++ new := ⟨_, rfl⟩
  rw [← hN10] at K10 Q10 R10 S10 T10 U10 V10 W10 ⊢
  clear hN10 R9 S9 T9 U9 V9 W9 K9 Q9
  clear nr
  simp (config := {implicitDefEqProofs := false, maxDischargeDepth := 20}) (disch := first | omega | (simp only [lenE]; done) | (simp only [lenE]; omega) | rfl | (simp only [lenE, markR_len]; done) | (simp only [lenE, markR_len]; omega)) only [runE, mapE, listE, initT_5, initT_6, initT_7, initT_8, resV, oneV, binA, unA, reduceCtorEq, Nat.reduceEqDiff, Nat.reduceAdd, Nat.reduceLT, Nat.reduceLeDiff, Nat.reduceMul, Nat.reduceSub, ↓reduceIte, decide_true, decide_false, Bool.true_eq_false, Bool.false_eq_true, Bool.not_true, Bool.not_false, if_true, if_false, and_true, true_and, memE, celE, w64, Nat.zero_add, Nat.add_zero, Nat.mul_one, putL, and_self, ldn, kL K10, ext_2_0, ext_2_1, ext_3_0, ext_3_1, ext_3_2, bne_self_eq_false, beq_self_eq_true, goG_undef, qL Q10]
  refine callH_rc (E2 _ Q10) ?_
  rintro r new ⟨rfl, nr⟩
  have K11 := Kx new K10
  have Q11 := Qx new Q10
  have R11 := R10.ext new
  have S11 := S10.ext new
  have T11 := T10.ext new
  have U11 := U10.ext new
  have V11 := V10.ext new
  have W11 := W10.ext new
  obtain ⟨N11, hN11⟩ : ∃ N, N = N10 ++ new := ⟨_, rfl⟩
  rw [← hN11] at K11 Q11 R11 S11 T11 U11 V11 W11 ⊢
  clear hN11 R10 S10 T10 U10 V10 W10 K10 Q10
  clear nr
  simp (config := {implicitDefEqProofs := false, maxDischargeDepth := 20}) (disch := first | omega | (simp only [lenE]; done) | (simp only [lenE]; omega) | rfl | (simp only [lenE, markR_len]; done) | (simp only [lenE, markR_len]; omega)) only [runE, mapE, listE, initT_5, initT_6, initT_7, initT_8, resV, oneV, binA, unA, reduceCtorEq, Nat.reduceEqDiff, Nat.reduceAdd, Nat.reduceLT, Nat.reduceLeDiff, Nat.reduceMul, Nat.reduceSub, ↓reduceIte, decide_true, decide_false, Bool.true_eq_false, Bool.false_eq_true, Bool.not_true, Bool.not_false, if_true, if_false, and_true, true_and, memE, celE, w64, Nat.zero_add, Nat.add_zero, Nat.mul_one, putL, and_self, ldn, kL K11, ext_2_0, ext_2_1, ext_3_0, ext_3_1, ext_3_2, bne_self_eq_false, beq_self_eq_true, goG_undef, qL Q11]
  refine callH_rc (E3 _ Q11) ?_
  rintro r new ⟨rfl, nr⟩
  have K12 := Kx new K11
  have Q12 := Qx new Q11
  have R12 := R11.ext new
  have S12 := S11.ext new
  have T12 := T11.ext new
  have U12 := U11.ext new
  have V12 := V11.ext new
  have W12 := W11.ext new
  obtain ⟨N12, hN12⟩ : ∃ N, N = N11 ++ new := ⟨_, rfl⟩
  rw [← hN12] at K12 Q12 R12 S12 T12 U12 V12 W12 ⊢
  clear hN12 R11 S11 T11 U11 V11 W11 K11 Q11
  clear nr
  simp (config := {implicitDefEqProofs := false, maxDischargeDepth := 20}) (disch := first | omega | (simp only [lenE]; done) | (simp only [lenE]; omega) | rfl | (simp only [lenE, markR_len]; done) | (simp only [lenE, markR_len]; omega)) only [runE, mapE, listE, initT_5, initT_6, initT_7, initT_8, resV, oneV, binA, unA, reduceCtorEq, Nat.reduceEqDiff, Nat.reduceAdd, Nat.reduceLT, Nat.reduceLeDiff, Nat.reduceMul, Nat.reduceSub, ↓reduceIte, decide_true, decide_false, Bool.true_eq_false, Bool.false_eq_true, Bool.not_true, Bool.not_false, if_true, if_false, and_true, true_and, memE, celE, w64, Nat.zero_add, Nat.add_zero, Nat.mul_one, putL, and_self, ldn, kL K12, ext_2_0, ext_2_1, ext_3_0, ext_3_1, ext_3_2, bne_self_eq_false, beq_self_eq_true, goG_undef, qL Q12]
  refine callH_rc (E4 _ Q12) ?_
  rintro r new ⟨rfl, nr⟩
  have K13 := Kx new K12
  have Q13 := Qx new Q12
  have R13 := R12.ext new
  have S13 := S12.ext new
  have T13 := T12.ext new
  have U13 := U12.ext new
  have V13 := V12.ext new
  have W13 := W12.ext new
  obtain ⟨N13, hN13⟩ : ∃ N, N = N12 ++ new := ⟨_, rfl⟩
  rw [← hN13] at K13 Q13 R13 S13 T13 U13 V13 W13 ⊢
  clear hN13 R12 S12 T12 U12 V12 W12 K12 Q12
  clear nr
  simp (config := {implicitDefEqProofs := false, maxDischargeDepth := 20}) (disch := first | omega | (simp only [lenE]; done) | (simp only [lenE]; omega) | rfl | (simp only [lenE, markR_len]; done) | (simp only [lenE, markR_len]; omega)) only [runE, mapE, listE, initT_5, initT_6, initT_7, initT_8, resV, oneV, binA, unA, reduceCtorEq, Nat.reduceEqDiff, Nat.reduceAdd, Nat.reduceLT, Nat.reduceLeDiff, Nat.reduceMul, Nat.reduceSub, ↓reduceIte, decide_true, decide_false, Bool.true_eq_false, Bool.false_eq_true, Bool.not_true, Bool.not_false, if_true, if_false, and_true, true_and, memE, celE, w64, Nat.zero_add, Nat.add_zero, Nat.mul_one, putL, and_self, ldn, kL K13, ext_2_0, ext_2_1, ext_3_0, ext_3_1, ext_3_2, bne_self_eq_false, beq_self_eq_true, goG_undef, qL Q13]
  refine callH_rc (vInts_rc _ _ _ fo (R13.ints (by omega) _) (S13.ints (by omega) _)) ?_
  rintro r new ⟨rfl, rfl⟩
  rw [List.append_nil]
  clear S13
  simp (config := {implicitDefEqProofs := false, maxDischargeDepth := 20}) (disch := first | omega | (simp only [lenE]; done) | (simp only [lenE]; omega) | rfl | (simp only [lenE, markR_len]; done) | (simp only [lenE, markR_len]; omega)) only [runE, mapE, listE, initT_5, initT_6, initT_7, initT_8, resV, oneV, binA, unA, reduceCtorEq, Nat.reduceEqDiff, Nat.reduceAdd, Nat.reduceLT, Nat.reduceLeDiff, Nat.reduceMul, Nat.reduceSub, ↓reduceIte, decide_true, decide_false, Bool.true_eq_false, Bool.false_eq_true, Bool.not_true, Bool.not_false, if_true, if_false, and_true, true_and, memE, celE, w64, Nat.zero_add, Nat.add_zero, Nat.mul_one, putL, and_self, ldn, kL K13, ext_2_0, ext_2_1, ext_3_0, ext_3_1, ext_3_2, bne_self_eq_false, beq_self_eq_true, goG_undef, qL Q13]
  refine callH_rc (vInts_rc _ _ _ ba (T13.ints (by omega) _) (U13.ints (by omega) _)) ?_
  rintro r new ⟨rfl, rfl⟩
  rw [List.append_nil]
  clear U13
  simp (config := {implicitDefEqProofs := false, maxDischargeDepth := 20}) (disch := first | omega | (simp only [lenE]; done) | (simp only [lenE]; omega) | rfl | (simp only [lenE, markR_len]; done) | (simp only [lenE, markR_len]; omega)) only [runE, mapE, listE, initT_5, initT_6, initT_7, initT_8, resV, oneV, binA, unA, reduceCtorEq, Nat.reduceEqDiff, Nat.reduceAdd, Nat.reduceLT, Nat.reduceLeDiff, Nat.reduceMul, Nat.reduceSub, ↓reduceIte, decide_true, decide_false, Bool.true_eq_false, Bool.false_eq_true, Bool.not_true, Bool.not_false, if_true, if_false, and_true, true_and, memE, celE, w64, Nat.zero_add, Nat.add_zero, Nat.mul_one, putL, and_self, ldn, kL K13, ext_2_0, ext_2_1, ext_3_0, ext_3_1, ext_3_2, bne_self_eq_false, beq_self_eq_true, goG_undef, qL Q13]
  refine callH_rc (vInts_rc _ _ _ tu (V13.ints (by omega) _) (W13.ints (by omega) _)) ?_
  rintro r new ⟨rfl, rfl⟩
  rw [List.append_nil]
  clear W13
  simp (config := {implicitDefEqProofs := false, maxDischargeDepth := 20}) (disch := first | omega | (simp only [lenE]; done) | (simp only [lenE]; omega) | rfl | (simp only [lenE, markR_len]; done) | (simp only [lenE, markR_len]; omega)) only [runE, mapE, listE, initT_5, initT_6, initT_7, initT_8, resV, oneV, binA, unA, reduceCtorEq, Nat.reduceEqDiff, Nat.reduceAdd, Nat.reduceLT, Nat.reduceLeDiff, Nat.reduceMul, Nat.reduceSub, ↓reduceIte, decide_true, decide_false, Bool.true_eq_false, Bool.false_eq_true, Bool.not_true, Bool.not_false, if_true, if_false, and_true, true_and, memE, celE, w64, Nat.zero_add, Nat.add_zero, Nat.mul_one, putL, and_self, ldn, kL K13, ext_2_0, ext_2_1, ext_3_0, ext_3_1, ext_3_2, bne_self_eq_false, beq_self_eq_true, goG_undef, qL Q13]
  cases one with
  | false =>
    cases ok with
    | false =>
      as_aux_lemma =>
        simp (config := {implicitDefEqProofs := false, maxDischargeDepth := 20}) (disch := first | omega | (simp only [lenE]; done) | (simp only [lenE]; omega) | rfl | (simp only [lenE, markR_len]; done) | (simp only [lenE, markR_len]; omega)) only [runE, mapE, listE, initT_5, initT_6, initT_7, initT_8, resV, oneV, binA, unA, reduceCtorEq, Nat.reduceEqDiff, Nat.reduceAdd, Nat.reduceLT, Nat.reduceLeDiff, Nat.reduceMul, Nat.reduceSub, ↓reduceIte, decide_true, decide_false, Bool.true_eq_false, Bool.false_eq_true, Bool.not_true, Bool.not_false, if_true, if_false, and_true, true_and, memE, celE, w64, Nat.zero_add, Nat.add_zero, Nat.mul_one, putL, and_self, ldn, kL K13, ext_2_0, ext_2_1, ext_3_0, ext_3_1, ext_3_2, bne_self_eq_false, beq_self_eq_true, goG_undef, qL Q13]
    | true =>
      as_aux_lemma =>
        have hg := hok.symm
        have gd := good_iff.1 hg
        have h8 := gd.n8
        have efo : fo = fwdC k k.need.length := by rw [hfo, forwardA_yes hg]
        have eba : ba = bwdL k := by rw [hba]; unfold backA; rw [if_pos hg]
        have etu : tu = turnP k (k.need.length + 1) := by rw [htu, turnA_yes hg]
        have lfo : fo.length = k.need.length + 1 := by rw [efo, fwdC_len]
        have lba : ba.length = k.need.length + 1 := by rw [eba]; unfold bwdL; rw [bwdF_len]
        obtain ⟨bs, hbs⟩ : ∃ t, t = bestCost k := ⟨_, rfl⟩
        have ebs : bestCA k = bs := by rw [hbs]; unfold bestCA; rw [if_pos hg]
        have fb : ∀ x, x ≤ k.need.length → 0 ≤ fo.getD x 0 ∧ fo.getD x 0 ≤ 13059 * 9 := fun x hx => by
          rw [efo]; exact getD_bound (m := 13059 * 9) (by omega) (fwdC_in gd _ h8) x
        have bb : ∀ x, x ≤ k.need.length → 0 ≤ ba.getD x 0 ∧ ba.getD x 0 ≤ 13059 := fun x hx => by
          rw [eba]; exact getD_bound (m := 13059) (by omega) (bwdF_in gd _ _ (Nat.le_refl _) h8) x
        have en : fo.getD k.need.length 0 = bs := by rw [efo, hbs, fwd_tot, best_D gd]
        have ez : ba.getD 0 0 = bs := by rw [eba, hbs, bwd_best gd]
        have bbs := bb 0 (by omega)
        rw [ez] at bbs
        have cutp : ∀ x : Nat, x ≤ k.need.length → cutOk k 0 x = true ∧ cutOk k x k.need.length = true ∧ bestCA (cutC k 0 x) = fo.getD x 0 ∧ bestCA (cutC k x k.need.length) = ba.getD x 0 ∧ bs ≤ fo.getD x 0 + ba.getD x 0 ∧ decide ((x : Int) ∈ tu) = (fo.getD x 0 + ba.getD x 0 == bs) := fun x hx => by
          have g1 := good_cut gd (a := 0) (b := x) hx
          have g2 := good_cut gd (a := x) (b := k.need.length) (Nat.le_refl _)
          have p1 := best_pre gd hx
          have p2 := best_suf gd hx
          have p3 := turn_iff gd hx
          rw [p1, p2, ← hbs, ← efo, ← eba] at p3
          rw [← efo] at p1
          rw [← eba] at p2
          refine ⟨?_, ?_, ?_, ?_, p3.1, ?_⟩
          · simp only [cutOk, Bool.and_eq_true, decide_eq_true_eq]; exact ⟨⟨hg, by omega, by omega⟩, by omega, by omega⟩
          · simp only [cutOk, Bool.and_eq_true, decide_eq_true_eq]; exact ⟨⟨hg, by omega, by omega⟩, by omega, by omega⟩
          · unfold bestCA; rw [if_pos (good_iff.2 g1)]; exact p1
          · unfold bestCA; rw [if_pos (good_iff.2 g2)]; exact p2
          · rw [← p3.2, etu]
            cases ht : turnAt k x with
            | true => rw [decide_eq_true]; exact (turn_mem k x _).2 ⟨by omega, ht⟩
            | false =>
              rw [decide_eq_false]
              intro hm
              have := ((turn_mem k x _).1 hm).2
              rw [ht] at this
              cases this
        have nl := (kN K13).len
        simp (config := {implicitDefEqProofs := false, maxDischargeDepth := 20}) (disch := first | omega | (simp only [lenE]; done) | (simp only [lenE]; omega) | rfl | (simp only [lenE, markR_len]; done) | (simp only [lenE, markR_len]; omega)) only [runE, mapE, listE, initT_5, initT_6, initT_7, initT_8, resV, oneV, binA, unA, reduceCtorEq, Nat.reduceEqDiff, Nat.reduceAdd, Nat.reduceLT, Nat.reduceLeDiff, Nat.reduceMul, Nat.reduceSub, ↓reduceIte, decide_true, decide_false, Bool.true_eq_false, Bool.false_eq_true, Bool.not_true, Bool.not_false, if_true, if_false, and_true, true_and, memE, celE, w64, Nat.zero_add, Nat.add_zero, Nat.mul_one, putL, and_self, ldn, kL K13, ext_2_0, ext_2_1, ext_3_0, ext_3_1, ext_3_2, bne_self_eq_false, beq_self_eq_true, goG_undef, qL Q13, k0 K13, nl]
        refine callH_rc (implBestCost_rc _ _ k (kC K13)) ?_
        rintro r new ⟨rfl, nr⟩
        rw [ebs]
        have K14 := Kx new K13
        have Q14 := Qx new Q13
        have R14 := R13.ext new
        have T14 := T13.ext new
        have V14 := V13.ext new
        obtain ⟨N14, hN14⟩ : ∃ N, N = N13 ++ new := ⟨_, rfl⟩
        rw [← hN14] at K14 Q14 R14 T14 V14 ⊢
        clear hN14 R13 T13 V13 K13 Q13
        clear nr
        have hR := R14.ints (by omega) Rf
        have hT := T14.ints (by omega) Tf
        have r1 := hR.at_ k.need.length (by omega)
        have r2 := hR.ld k.need.length (by omega)
        have r3 : iadA 1 (.slice (some ⟨Ti, 0, none⟩) ba.length Tf) (.int .i64 0) = some (pAt (.slice (some ⟨Ti, 0, none⟩) ba.length Tf) 0) := hT.at_ 0 (by omega)
        have r4 := hT.ld 0 (by omega)
        rw [en] at r2
        rw [ez] at r4
        simp (config := {implicitDefEqProofs := false, maxDischargeDepth := 20}) (disch := first | omega | (simp only [lenE]; done) | (simp only [lenE]; omega) | rfl | (simp only [lenE, markR_len]; done) | (simp only [lenE, markR_len]; omega)) only [runE, mapE, listE, initT_5, initT_6, initT_7, initT_8, resV, oneV, binA, unA, reduceCtorEq, Nat.reduceEqDiff, Nat.reduceAdd, Nat.reduceLT, Nat.reduceLeDiff, Nat.reduceMul, Nat.reduceSub, ↓reduceIte, decide_true, decide_false, Bool.true_eq_false, Bool.false_eq_true, Bool.not_true, Bool.not_false, if_true, if_false, and_true, true_and, memE, celE, w64, Nat.zero_add, Nat.add_zero, Nat.mul_one, putL, and_self, ldn, kL K14, ext_2_0, ext_2_1, ext_3_0, ext_3_1, ext_3_2, bne_self_eq_false, beq_self_eq_true, goG_undef, qL Q14, r1, r2, r3, r4]
        clear r1 r2 r3 r4 hR hT nl
        refine loop_inv mixed (fun s => ∃ (x : Nat) (M : Mem), x ≤ k.need.length + 1 ∧ s.m = M ∧ K M ∧ OwnR M Ri fo ∧ OwnR M Ti ba ∧ OwnR M Vi tu ∧ s.t 3 = .pointer (some ⟨bd, 0, none⟩) ∧ s.t 4 = .slice (some ⟨Ri, 0, none⟩) fo.length Rf ∧ s.t 8 = .slice (some ⟨Ti, 0, none⟩) ba.length Tf ∧ s.t 12 = .slice (some ⟨Vi, 0, none⟩) tu.length Vf ∧ s.t 31 = .int .i64 k.need.length ∧ s.t 32 = .int .i64 bs ∧ s.t 34 = .int .i64 x) (fun s => k.need.length + 1 - (intOf (s.t 34)).toNat)
          ⟨0, _, by omega, rfl, K14, R14, T14, V14, rfl, rfl, rfl, rfl, rfl, rfl, rfl⟩ ?_
        rintro s ⟨x, N0, hx, tm, K0', R0', T0', V0', t3, t4, t8, t12, t31, t32, t34⟩
        by_cases hlt : x ≤ k.need.length
        · have hlt' : (x : Int) ≤ k.need.length := by omega
          obtain ⟨o1, o2, p1, p2, p3, p4⟩ := cutp x hlt
          simp (config := {implicitDefEqProofs := false, maxDischargeDepth := 20}) (disch := first | omega | (simp only [lenE]; done) | (simp only [lenE]; omega) | rfl | (simp only [lenE, markR_len]; done) | (simp only [lenE, markR_len]; omega)) only [runE, mapE, listE, initT_5, initT_6, initT_7, initT_8, resV, oneV, binA, unA, reduceCtorEq, Nat.reduceEqDiff, Nat.reduceAdd, Nat.reduceLT, Nat.reduceLeDiff, Nat.reduceMul, Nat.reduceSub, ↓reduceIte, decide_true, decide_false, Bool.true_eq_false, Bool.false_eq_true, Bool.not_true, Bool.not_false, if_true, if_false, and_true, true_and, memE, celE, w64, Nat.zero_add, Nat.add_zero, Nat.mul_one, putL, and_self, ldn, tm, t3, t4, t8, t12, t31, t32, t34, kL K0', hlt']
          refine callH_rc (implCut_rc _ _ k 0 x (kC K0')) ?_
          intro r new hA
          rw [o1, cutA_yes o1] at hA
          obtain ⟨w1, w2, w3, w4, rfl, hd, nr⟩ := hA.case
          clear hA
          simp only [Int.toNat_natCast, Int.toNat_zero] at hd
          have K1' := Kx new K0'
          have R1' := R0'.ext new
          have T1' := T0'.ext new
          have V1' := V0'.ext new
          obtain ⟨P1, hP1⟩ : ∃ P, P = N0 ++ new := ⟨_, rfl⟩
          rw [← hP1] at K1' R1' T1' V1' hd ⊢
          clear hP1 nr R0' T0' V0' K0'
          obtain ⟨s1, x1⟩ := box_new (M := P1) hd
          have K2' := Kx [(⟨.own, 26, [w1, w2, w3, w4]⟩ : Blk)] K1'
          have R2' := R1'.ext [(⟨.own, 26, [w1, w2, w3, w4]⟩ : Blk)]
          have T2' := T1'.ext [(⟨.own, 26, [w1, w2, w3, w4]⟩ : Blk)]
          have V2' := V1'.ext [(⟨.own, 26, [w1, w2, w3, w4]⟩ : Blk)]
          have hd2 := hd.ext [(⟨.own, 26, [w1, w2, w3, w4]⟩ : Blk)]
          have b2 : BoxK (P1 ++ [(⟨.own, 26, [w1, w2, w3, w4]⟩ : Blk)]) P1.length w1 w2 w3 w4 := x1
          simp (config := {implicitDefEqProofs := false, maxDischargeDepth := 20}) (disch := first | omega | (simp only [lenE]; done) | (simp only [lenE]; omega) | rfl | (simp only [lenE, markR_len]; done) | (simp only [lenE, markR_len]; omega)) only [runE, mapE, listE, initT_5, initT_6, initT_7, initT_8, resV, oneV, binA, unA, reduceCtorEq, Nat.reduceEqDiff, Nat.reduceAdd, Nat.reduceLT, Nat.reduceLeDiff, Nat.reduceMul, Nat.reduceSub, ↓reduceIte, decide_true, decide_false, Bool.true_eq_false, Bool.false_eq_true, Bool.not_true, Bool.not_false, if_true, if_false, and_true, true_and, memE, celE, w64, Nat.zero_add, Nat.add_zero, Nat.mul_one, putL, and_self, ldn, tm, t3, t4, t8, t12, t31, t32, t34, ext_2_0, ext_2_1, stP_aggL, s1, kL K2']
          clear s1 x1 hd K1' R1' T1' V1'
          generalize P1 ++ [(⟨.own, 26, [w1, w2, w3, w4]⟩ : Blk)] = P2 at *
          generalize P1.length = y1 at *
          refine callH_rc (implCut_rc _ _ k x k.need.length (kC K2')) ?_
          intro r new hA
          rw [o2, cutA_yes o2] at hA
          obtain ⟨z1, z2, z3, z4, rfl, he, nr⟩ := hA.case
          clear hA
          simp only [Int.toNat_natCast, Int.toNat_zero] at he
          have K3' := Kx new K2'
          have R3' := R2'.ext new
          have T3' := T2'.ext new
          have V3' := V2'.ext new
          have hd3 := hd2.ext new
          have b3 := b2.ext new
          obtain ⟨P3, hP3⟩ : ∃ P, P = P2 ++ new := ⟨_, rfl⟩
          rw [← hP3] at K3' R3' T3' V3' hd3 he b3 ⊢
          clear hP3 nr R2' T2' V2' K2' hd2 b2
          obtain ⟨s1, x1⟩ := box_new (M := P3) he
          have K4' := Kx [(⟨.own, 26, [z1, z2, z3, z4]⟩ : Blk)] K3'
          have R4' := R3'.ext [(⟨.own, 26, [z1, z2, z3, z4]⟩ : Blk)]
          have T4' := T3'.ext [(⟨.own, 26, [z1, z2, z3, z4]⟩ : Blk)]
          have V4' := V3'.ext [(⟨.own, 26, [z1, z2, z3, z4]⟩ : Blk)]
          have hd4 := hd3.ext [(⟨.own, 26, [z1, z2, z3, z4]⟩ : Blk)]
          have he4 := he.ext [(⟨.own, 26, [z1, z2, z3, z4]⟩ : Blk)]
          have b4 := b3.ext [(⟨.own, 26, [z1, z2, z3, z4]⟩ : Blk)]
          have g4 : BoxK (P3 ++ [(⟨.own, 26, [z1, z2, z3, z4]⟩ : Blk)]) P3.length z1 z2 z3 z4 := x1
          simp (config := {implicitDefEqProofs := false, maxDischargeDepth := 20}) (disch := first | omega | (simp only [lenE]; done) | (simp only [lenE]; omega) | rfl | (simp only [lenE, markR_len]; done) | (simp only [lenE, markR_len]; omega)) only [runE, mapE, listE, initT_5, initT_6, initT_7, initT_8, resV, oneV, binA, unA, reduceCtorEq, Nat.reduceEqDiff, Nat.reduceAdd, Nat.reduceLT, Nat.reduceLeDiff, Nat.reduceMul, Nat.reduceSub, ↓reduceIte, decide_true, decide_false, Bool.true_eq_false, Bool.false_eq_true, Bool.not_true, Bool.not_false, if_true, if_false, and_true, true_and, memE, celE, w64, Nat.zero_add, Nat.add_zero, Nat.mul_one, putL, and_self, ldn, tm, t3, t4, t8, t12, t31, t32, t34, ext_2_0, ext_2_1, stP_aggL, s1, b4.ld]
          clear s1 x1 hd3 he K3' R3' T3' V3' b3
          generalize P3 ++ [(⟨.own, 26, [z1, z2, z3, z4]⟩ : Blk)] = P4 at *
          generalize P3.length = y2 at *
          refine callH_rc (implBestCost_rc _ _ _ hd4) ?_
          rintro r new ⟨rfl, nr⟩
          rw [p1]
          have K5' := Kx new K4'
          have R5' := R4'.ext new
          have T5' := T4'.ext new
          have V5' := V4'.ext new
          have he5 := he4.ext new
          have g5 := g4.ext new
          obtain ⟨P5, hP5⟩ : ∃ P, P = P4 ++ new := ⟨_, rfl⟩
          rw [← hP5] at K5' R5' T5' V5' he5 g5 ⊢
          clear hP5 nr R4' T4' V4' K4' hd4 he4 b4 g4
          simp (config := {implicitDefEqProofs := false, maxDischargeDepth := 20}) (disch := first | omega | (simp only [lenE]; done) | (simp only [lenE]; omega) | rfl | (simp only [lenE, markR_len]; done) | (simp only [lenE, markR_len]; omega)) only [runE, mapE, listE, initT_5, initT_6, initT_7, initT_8, resV, oneV, binA, unA, reduceCtorEq, Nat.reduceEqDiff, Nat.reduceAdd, Nat.reduceLT, Nat.reduceLeDiff, Nat.reduceMul, Nat.reduceSub, ↓reduceIte, decide_true, decide_false, Bool.true_eq_false, Bool.false_eq_true, Bool.not_true, Bool.not_false, if_true, if_false, and_true, true_and, memE, celE, w64, Nat.zero_add, Nat.add_zero, Nat.mul_one, putL, and_self, ldn, tm, t3, t4, t8, t12, t31, t32, t34, ext_2_0, ext_2_1, g5.ld]
          refine callH_rc (implBestCost_rc _ _ _ he5) ?_
          rintro r new ⟨rfl, nr⟩
          rw [p2]
          have K6' := Kx new K5'
          have R6' := R5'.ext new
          have T6' := T5'.ext new
          have V6' := V5'.ext new
          obtain ⟨P6, hP6⟩ : ∃ P, P = P5 ++ new := ⟨_, rfl⟩
          rw [← hP6] at K6' R6' T6' V6' ⊢
          clear hP6 nr R5' T5' V5' K5' he5 g5
          have hR := R6'.ints (by omega) Rf
          have hT := T6'.ints (by omega) Tf
          have f1 := fb x hlt
          have f2 := bb x hlt
          have hng : ¬ (fo.getD x 0 + ba.getD x 0 < bs) := by omega
          simp (config := {implicitDefEqProofs := false, maxDischargeDepth := 20}) (disch := first | omega | (simp only [lenE]; done) | (simp only [lenE]; omega) | rfl | (simp only [lenE, markR_len]; done) | (simp only [lenE, markR_len]; omega)) only [runE, mapE, listE, initT_5, initT_6, initT_7, initT_8, resV, oneV, binA, unA, reduceCtorEq, Nat.reduceEqDiff, Nat.reduceAdd, Nat.reduceLT, Nat.reduceLeDiff, Nat.reduceMul, Nat.reduceSub, ↓reduceIte, decide_true, decide_false, Bool.true_eq_false, Bool.false_eq_true, Bool.not_true, Bool.not_false, if_true, if_false, and_true, true_and, memE, celE, w64, Nat.zero_add, Nat.add_zero, Nat.mul_one, putL, and_self, ldn, tm, t3, t4, t8, t12, t31, t32, t34, ext_2_0, ext_2_1, hR.at_ x (by omega), hR.ld x (by omega), hT.at_ x (by omega), hT.ld x (by omega), bne_self_eq_false, hng]
          refine callH_rc (vHas_rc _ _ tu _ (V6'.ints (by omega) Vf)) ?_
          rintro r new ⟨rfl, rfl⟩
          rw [List.append_nil, p4]
          simp (config := {implicitDefEqProofs := false, maxDischargeDepth := 20}) (disch := first | omega | (simp only [lenE]; done) | (simp only [lenE]; omega) | rfl | (simp only [lenE, markR_len]; done) | (simp only [lenE, markR_len]; omega)) only [runE, mapE, listE, initT_5, initT_6, initT_7, initT_8, resV, oneV, binA, unA, reduceCtorEq, Nat.reduceEqDiff, Nat.reduceAdd, Nat.reduceLT, Nat.reduceLeDiff, Nat.reduceMul, Nat.reduceSub, ↓reduceIte, decide_true, decide_false, Bool.true_eq_false, Bool.false_eq_true, Bool.not_true, Bool.not_false, if_true, if_false, and_true, true_and, memE, celE, w64, Nat.zero_add, Nat.add_zero, Nat.mul_one, putL, and_self, ldn, tm, t3, t4, t8, t12, t31, t32, t34, ext_2_0, ext_2_1, bne_self_eq_false, beq_self_eq_true, Bool.not_true]
          exact ⟨⟨x + 1, _, by omega, rfl, K6', R6', T6', V6', by simp⟩, by simp [intOf]; omega⟩
        · have hlt' : ¬ ((x : Int) ≤ k.need.length) := by omega
          simp (config := {implicitDefEqProofs := false, maxDischargeDepth := 20}) (disch := first | omega | (simp only [lenE]; done) | (simp only [lenE]; omega) | rfl | (simp only [lenE, markR_len]; done) | (simp only [lenE, markR_len]; omega)) only [runE, mapE, listE, initT_5, initT_6, initT_7, initT_8, resV, oneV, binA, unA, reduceCtorEq, Nat.reduceEqDiff, Nat.reduceAdd, Nat.reduceLT, Nat.reduceLeDiff, Nat.reduceMul, Nat.reduceSub, ↓reduceIte, decide_true, decide_false, Bool.true_eq_false, Bool.false_eq_true, Bool.not_true, Bool.not_false, if_true, if_false, and_true, true_and, memE, celE, w64, Nat.zero_add, Nat.add_zero, Nat.mul_one, putL, and_self, ldn, tm, t3, t4, t8, t12, t31, t32, t34, hlt']
  | true =>
    cases ok with
    | false =>
      as_aux_lemma =>
        have hs2 := hone.symm
        have hs3 := hs2
        simp only [spanOk, Bool.and_eq_true, decide_eq_true_eq] at hs3
        obtain ⟨⟨hgc, hi0, hij⟩, hj1, hjn⟩ := hs3
        have gc := good_iff.1 hgc
        have hcut : cutOk c i j = true := by
          simp only [cutOk, Bool.and_eq_true, decide_eq_true_eq]
          exact ⟨⟨hgc, by omega, by omega⟩, by omega, by omega⟩
        have hsp2 : bestCA (cutC c i.toNat j.toNat) ≤ sp := by
          have g := good_cut gc (a := i.toNat) (b := j.toNat) (by omega)
          rw [hsp, spanA_yes hs2]
          unfold bestCA
          rw [if_pos (good_iff.2 g)]
          exact best_span gc (by omega) (by omega)
        simp (config := {implicitDefEqProofs := false, maxDischargeDepth := 20}) (disch := first | omega | (simp only [lenE]; done) | (simp only [lenE]; omega) | rfl | (simp only [lenE, markR_len]; done) | (simp only [lenE, markR_len]; omega)) only [runE, mapE, listE, initT_5, initT_6, initT_7, initT_8, resV, oneV, binA, unA, reduceCtorEq, Nat.reduceEqDiff, Nat.reduceAdd, Nat.reduceLT, Nat.reduceLeDiff, Nat.reduceMul, Nat.reduceSub, ↓reduceIte, decide_true, decide_false, Bool.true_eq_false, Bool.false_eq_true, Bool.not_true, Bool.not_false, if_true, if_false, and_true, true_and, memE, celE, w64, Nat.zero_add, Nat.add_zero, Nat.mul_one, putL, and_self, ldn, kL K13, ext_2_0, ext_2_1, ext_3_0, ext_3_1, ext_3_2, bne_self_eq_false, beq_self_eq_true, goG_undef, qL Q13]
        refine callH_rc (implCut_rc _ _ c i j (qC Q13)) ?_
        intro r new hA
        rw [hcut, cutA_yes hcut] at hA
        obtain ⟨w1, w2, w3, w4, rfl, hd, nr⟩ := hA.case
        clear hA
        have K14 := Kx new K13
        have Q14 := Qx new Q13
        have R14 := R13.ext new
        have T14 := T13.ext new
        have V14 := V13.ext new
        obtain ⟨N14, hN14⟩ : ∃ N, N = N13 ++ new := ⟨_, rfl⟩
        rw [← hN14] at K14 Q14 R14 T14 V14 hd ⊢
        clear hN14 R13 T13 V13 K13 Q13
        clear nr
        obtain ⟨s1, x1⟩ := box_new (M := N14) hd
        simp (config := {implicitDefEqProofs := false, maxDischargeDepth := 20}) (disch := first | omega | (simp only [lenE]; done) | (simp only [lenE]; omega) | rfl | (simp only [lenE, markR_len]; done) | (simp only [lenE, markR_len]; omega)) only [runE, mapE, listE, initT_5, initT_6, initT_7, initT_8, resV, oneV, binA, unA, reduceCtorEq, Nat.reduceEqDiff, Nat.reduceAdd, Nat.reduceLT, Nat.reduceLeDiff, Nat.reduceMul, Nat.reduceSub, ↓reduceIte, decide_true, decide_false, Bool.true_eq_false, Bool.false_eq_true, Bool.not_true, Bool.not_false, if_true, if_false, and_true, true_and, memE, celE, w64, Nat.zero_add, Nat.add_zero, Nat.mul_one, putL, and_self, ldn, stP_aggL, s1, kL K14, ext_2_0, ext_2_1, ext_3_0, ext_3_1, ext_3_2, bne_self_eq_false, beq_self_eq_true, goG_undef, qL Q14]
        clear s1
        obtain ⟨new, hnew⟩ : ∃ new : Mem, new = [(⟨.own, 26, [w1, w2, w3, w4]⟩ : Blk)] := ⟨_, rfl⟩
        rw [← hnew] at x1 ⊢
        have hdx := hd.ext new
        clear hd hnew
        have bxb : BoxK (N14 ++ new) N14.length w1 w2 w3 w4 := x1
        clear x1
        have K15 := Kx new K14
        have Q15 := Qx new Q14
        have R15 := R14.ext new
        have T15 := T14.ext new
        have V15 := V14.ext new
        obtain ⟨N15, hN15⟩ : ∃ N, N = N14 ++ new := ⟨_, rfl⟩
        rw [← hN15] at K15 Q15 R15 T15 V15 hdx bxb ⊢
        clear hN15 R14 T14 V14 K14 Q14
        generalize N14.length = bx at *
        refine callH_rc (implBestCost_rc _ _ _ hdx) ?_
        rintro r new ⟨rfl, nr⟩
        have K16 := Kx new K15
        have Q16 := Qx new Q15
        have R16 := R15.ext new
        have T16 := T15.ext new
        have V16 := V15.ext new
        obtain ⟨N16, hN16⟩ : ∃ N, N = N15 ++ new := ⟨_, rfl⟩
        rw [← hN16] at K16 Q16 R16 T16 V16 ⊢
        clear hN16 R15 T15 V15 K15 Q15
        clear nr
        have hng : ¬ (sp < bestCA (cutC c i.toNat j.toNat)) := by omega
        simp (config := {implicitDefEqProofs := false, maxDischargeDepth := 20}) (disch := first | omega | (simp only [lenE]; done) | (simp only [lenE]; omega) | rfl | (simp only [lenE, markR_len]; done) | (simp only [lenE, markR_len]; omega)) only [runE, mapE, listE, initT_5, initT_6, initT_7, initT_8, resV, oneV, binA, unA, reduceCtorEq, Nat.reduceEqDiff, Nat.reduceAdd, Nat.reduceLT, Nat.reduceLeDiff, Nat.reduceMul, Nat.reduceSub, ↓reduceIte, decide_true, decide_false, Bool.true_eq_false, Bool.false_eq_true, Bool.not_true, Bool.not_false, if_true, if_false, and_true, true_and, memE, celE, w64, Nat.zero_add, Nat.add_zero, Nat.mul_one, putL, and_self, ldn, kL K16, ext_2_0, ext_2_1, ext_3_0, ext_3_1, ext_3_2, bne_self_eq_false, beq_self_eq_true, goG_undef, qL Q16, gt_iff_lt, hng]
    | true =>
      as_aux_lemma =>
        have hs2 := hone.symm
        have hs3 := hs2
        simp only [spanOk, Bool.and_eq_true, decide_eq_true_eq] at hs3
        obtain ⟨⟨hgc, hi0, hij⟩, hj1, hjn⟩ := hs3
        have gc := good_iff.1 hgc
        have hcut : cutOk c i j = true := by
          simp only [cutOk, Bool.and_eq_true, decide_eq_true_eq]
          exact ⟨⟨hgc, by omega, by omega⟩, by omega, by omega⟩
        have hsp2 : bestCA (cutC c i.toNat j.toNat) ≤ sp := by
          have g := good_cut gc (a := i.toNat) (b := j.toNat) (by omega)
          rw [hsp, spanA_yes hs2]
          unfold bestCA
          rw [if_pos (good_iff.2 g)]
          exact best_span gc (by omega) (by omega)
        simp (config := {implicitDefEqProofs := false, maxDischargeDepth := 20}) (disch := first | omega | (simp only [lenE]; done) | (simp only [lenE]; omega) | rfl | (simp only [lenE, markR_len]; done) | (simp only [lenE, markR_len]; omega)) only [runE, mapE, listE, initT_5, initT_6, initT_7, initT_8, resV, oneV, binA, unA, reduceCtorEq, Nat.reduceEqDiff, Nat.reduceAdd, Nat.reduceLT, Nat.reduceLeDiff, Nat.reduceMul, Nat.reduceSub, ↓reduceIte, decide_true, decide_false, Bool.true_eq_false, Bool.false_eq_true, Bool.not_true, Bool.not_false, if_true, if_false, and_true, true_and, memE, celE, w64, Nat.zero_add, Nat.add_zero, Nat.mul_one, putL, and_self, ldn, kL K13, ext_2_0, ext_2_1, ext_3_0, ext_3_1, ext_3_2, bne_self_eq_false, beq_self_eq_true, goG_undef, qL Q13]
        refine callH_rc (implCut_rc _ _ c i j (qC Q13)) ?_
        intro r new hA
        rw [hcut, cutA_yes hcut] at hA
        obtain ⟨w1, w2, w3, w4, rfl, hd, nr⟩ := hA.case
        clear hA
        have K14 := Kx new K13
        have Q14 := Qx new Q13
        have R14 := R13.ext new
        have T14 := T13.ext new
        have V14 := V13.ext new
        obtain ⟨N14, hN14⟩ : ∃ N, N = N13 ++ new := ⟨_, rfl⟩
        rw [← hN14] at K14 Q14 R14 T14 V14 hd ⊢
        clear hN14 R13 T13 V13 K13 Q13
        clear nr
        obtain ⟨s1, x1⟩ := box_new (M := N14) hd
        simp (config := {implicitDefEqProofs := false, maxDischargeDepth := 20}) (disch := first | omega | (simp only [lenE]; done) | (simp only [lenE]; omega) | rfl | (simp only [lenE, markR_len]; done) | (simp only [lenE, markR_len]; omega)) only [runE, mapE, listE, initT_5, initT_6, initT_7, initT_8, resV, oneV, binA, unA, reduceCtorEq, Nat.reduceEqDiff, Nat.reduceAdd, Nat.reduceLT, Nat.reduceLeDiff, Nat.reduceMul, Nat.reduceSub, ↓reduceIte, decide_true, decide_false, Bool.true_eq_false, Bool.false_eq_true, Bool.not_true, Bool.not_false, if_true, if_false, and_true, true_and, memE, celE, w64, Nat.zero_add, Nat.add_zero, Nat.mul_one, putL, and_self, ldn, stP_aggL, s1, kL K14, ext_2_0, ext_2_1, ext_3_0, ext_3_1, ext_3_2, bne_self_eq_false, beq_self_eq_true, goG_undef, qL Q14]
        clear s1
        obtain ⟨new, hnew⟩ : ∃ new : Mem, new = [(⟨.own, 26, [w1, w2, w3, w4]⟩ : Blk)] := ⟨_, rfl⟩
        rw [← hnew] at x1 ⊢
        have hdx := hd.ext new
        clear hd hnew
        have bxb : BoxK (N14 ++ new) N14.length w1 w2 w3 w4 := x1
        clear x1
        have K15 := Kx new K14
        have Q15 := Qx new Q14
        have R15 := R14.ext new
        have T15 := T14.ext new
        have V15 := V14.ext new
        obtain ⟨N15, hN15⟩ : ∃ N, N = N14 ++ new := ⟨_, rfl⟩
        rw [← hN15] at K15 Q15 R15 T15 V15 hdx bxb ⊢
        clear hN15 R14 T14 V14 K14 Q14
        generalize N14.length = bx at *
        refine callH_rc (implBestCost_rc _ _ _ hdx) ?_
        rintro r new ⟨rfl, nr⟩
        have K16 := Kx new K15
        have Q16 := Qx new Q15
        have R16 := R15.ext new
        have T16 := T15.ext new
        have V16 := V15.ext new
        obtain ⟨N16, hN16⟩ : ∃ N, N = N15 ++ new := ⟨_, rfl⟩
        rw [← hN16] at K16 Q16 R16 T16 V16 ⊢
        clear hN16 R15 T15 V15 K15 Q15
        clear nr
        have hng : ¬ (sp < bestCA (cutC c i.toNat j.toNat)) := by omega
        simp (config := {implicitDefEqProofs := false, maxDischargeDepth := 20}) (disch := first | omega | (simp only [lenE]; done) | (simp only [lenE]; omega) | rfl | (simp only [lenE, markR_len]; done) | (simp only [lenE, markR_len]; omega)) only [runE, mapE, listE, initT_5, initT_6, initT_7, initT_8, resV, oneV, binA, unA, reduceCtorEq, Nat.reduceEqDiff, Nat.reduceAdd, Nat.reduceLT, Nat.reduceLeDiff, Nat.reduceMul, Nat.reduceSub, ↓reduceIte, decide_true, decide_false, Bool.true_eq_false, Bool.false_eq_true, Bool.not_true, Bool.not_false, if_true, if_false, and_true, true_and, memE, celE, w64, Nat.zero_add, Nat.add_zero, Nat.mul_one, putL, and_self, ldn, kL K16, ext_2_0, ext_2_1, ext_3_0, ext_3_1, ext_3_2, bne_self_eq_false, beq_self_eq_true, goG_undef, qL Q16, gt_iff_lt, hng]
        have hg := hok.symm
        have gd := good_iff.1 hg
        have h8 := gd.n8
        have efo : fo = fwdC k k.need.length := by rw [hfo, forwardA_yes hg]
        have eba : ba = bwdL k := by rw [hba]; unfold backA; rw [if_pos hg]
        have etu : tu = turnP k (k.need.length + 1) := by rw [htu, turnA_yes hg]
        have lfo : fo.length = k.need.length + 1 := by rw [efo, fwdC_len]
        have lba : ba.length = k.need.length + 1 := by rw [eba]; unfold bwdL; rw [bwdF_len]
        obtain ⟨bs, hbs⟩ : ∃ t, t = bestCost k := ⟨_, rfl⟩
        have ebs : bestCA k = bs := by rw [hbs]; unfold bestCA; rw [if_pos hg]
        have fb : ∀ x, x ≤ k.need.length → 0 ≤ fo.getD x 0 ∧ fo.getD x 0 ≤ 13059 * 9 := fun x hx => by
          rw [efo]; exact getD_bound (m := 13059 * 9) (by omega) (fwdC_in gd _ h8) x
        have bb : ∀ x, x ≤ k.need.length → 0 ≤ ba.getD x 0 ∧ ba.getD x 0 ≤ 13059 := fun x hx => by
          rw [eba]; exact getD_bound (m := 13059) (by omega) (bwdF_in gd _ _ (Nat.le_refl _) h8) x
        have en : fo.getD k.need.length 0 = bs := by rw [efo, hbs, fwd_tot, best_D gd]
        have ez : ba.getD 0 0 = bs := by rw [eba, hbs, bwd_best gd]
        have bbs := bb 0 (by omega)
        rw [ez] at bbs
        have cutp : ∀ x : Nat, x ≤ k.need.length → cutOk k 0 x = true ∧ cutOk k x k.need.length = true ∧ bestCA (cutC k 0 x) = fo.getD x 0 ∧ bestCA (cutC k x k.need.length) = ba.getD x 0 ∧ bs ≤ fo.getD x 0 + ba.getD x 0 ∧ decide ((x : Int) ∈ tu) = (fo.getD x 0 + ba.getD x 0 == bs) := fun x hx => by
          have g1 := good_cut gd (a := 0) (b := x) hx
          have g2 := good_cut gd (a := x) (b := k.need.length) (Nat.le_refl _)
          have p1 := best_pre gd hx
          have p2 := best_suf gd hx
          have p3 := turn_iff gd hx
          rw [p1, p2, ← hbs, ← efo, ← eba] at p3
          rw [← efo] at p1
          rw [← eba] at p2
          refine ⟨?_, ?_, ?_, ?_, p3.1, ?_⟩
          · simp only [cutOk, Bool.and_eq_true, decide_eq_true_eq]; exact ⟨⟨hg, by omega, by omega⟩, by omega, by omega⟩
          · simp only [cutOk, Bool.and_eq_true, decide_eq_true_eq]; exact ⟨⟨hg, by omega, by omega⟩, by omega, by omega⟩
          · unfold bestCA; rw [if_pos (good_iff.2 g1)]; exact p1
          · unfold bestCA; rw [if_pos (good_iff.2 g2)]; exact p2
          · rw [← p3.2, etu]
            cases ht : turnAt k x with
            | true => rw [decide_eq_true]; exact (turn_mem k x _).2 ⟨by omega, ht⟩
            | false =>
              rw [decide_eq_false]
              intro hm
              have := ((turn_mem k x _).1 hm).2
              rw [ht] at this
              cases this
        have nl := (kN K16).len
        simp (config := {implicitDefEqProofs := false, maxDischargeDepth := 20}) (disch := first | omega | (simp only [lenE]; done) | (simp only [lenE]; omega) | rfl | (simp only [lenE, markR_len]; done) | (simp only [lenE, markR_len]; omega)) only [runE, mapE, listE, initT_5, initT_6, initT_7, initT_8, resV, oneV, binA, unA, reduceCtorEq, Nat.reduceEqDiff, Nat.reduceAdd, Nat.reduceLT, Nat.reduceLeDiff, Nat.reduceMul, Nat.reduceSub, ↓reduceIte, decide_true, decide_false, Bool.true_eq_false, Bool.false_eq_true, Bool.not_true, Bool.not_false, if_true, if_false, and_true, true_and, memE, celE, w64, Nat.zero_add, Nat.add_zero, Nat.mul_one, putL, and_self, ldn, kL K16, ext_2_0, ext_2_1, ext_3_0, ext_3_1, ext_3_2, bne_self_eq_false, beq_self_eq_true, goG_undef, qL Q16, k0 K16, nl]
        refine callH_rc (implBestCost_rc _ _ k (kC K16)) ?_
        rintro r new ⟨rfl, nr⟩
        rw [ebs]
        have K17 := Kx new K16
        have Q17 := Qx new Q16
        have R17 := R16.ext new
        have T17 := T16.ext new
        have V17 := V16.ext new
        obtain ⟨N17, hN17⟩ : ∃ N, N = N16 ++ new := ⟨_, rfl⟩
        rw [← hN17] at K17 Q17 R17 T17 V17 ⊢
        clear hN17 R16 T16 V16 K16 Q16
        clear nr
        have hR := R17.ints (by omega) Rf
        have hT := T17.ints (by omega) Tf
        have r1 := hR.at_ k.need.length (by omega)
        have r2 := hR.ld k.need.length (by omega)
        have r3 : iadA 1 (.slice (some ⟨Ti, 0, none⟩) ba.length Tf) (.int .i64 0) = some (pAt (.slice (some ⟨Ti, 0, none⟩) ba.length Tf) 0) := hT.at_ 0 (by omega)
        have r4 := hT.ld 0 (by omega)
        rw [en] at r2
        rw [ez] at r4
        simp (config := {implicitDefEqProofs := false, maxDischargeDepth := 20}) (disch := first | omega | (simp only [lenE]; done) | (simp only [lenE]; omega) | rfl | (simp only [lenE, markR_len]; done) | (simp only [lenE, markR_len]; omega)) only [runE, mapE, listE, initT_5, initT_6, initT_7, initT_8, resV, oneV, binA, unA, reduceCtorEq, Nat.reduceEqDiff, Nat.reduceAdd, Nat.reduceLT, Nat.reduceLeDiff, Nat.reduceMul, Nat.reduceSub, ↓reduceIte, decide_true, decide_false, Bool.true_eq_false, Bool.false_eq_true, Bool.not_true, Bool.not_false, if_true, if_false, and_true, true_and, memE, celE, w64, Nat.zero_add, Nat.add_zero, Nat.mul_one, putL, and_self, ldn, kL K17, ext_2_0, ext_2_1, ext_3_0, ext_3_1, ext_3_2, bne_self_eq_false, beq_self_eq_true, goG_undef, qL Q17, r1, r2, r3, r4]
        clear r1 r2 r3 r4 hR hT nl
        refine loop_inv mixed (fun s => ∃ (x : Nat) (M : Mem), x ≤ k.need.length + 1 ∧ s.m = M ∧ K M ∧ OwnR M Ri fo ∧ OwnR M Ti ba ∧ OwnR M Vi tu ∧ s.t 3 = .pointer (some ⟨bd, 0, none⟩) ∧ s.t 4 = .slice (some ⟨Ri, 0, none⟩) fo.length Rf ∧ s.t 8 = .slice (some ⟨Ti, 0, none⟩) ba.length Tf ∧ s.t 12 = .slice (some ⟨Vi, 0, none⟩) tu.length Vf ∧ s.t 31 = .int .i64 k.need.length ∧ s.t 32 = .int .i64 bs ∧ s.t 34 = .int .i64 x) (fun s => k.need.length + 1 - (intOf (s.t 34)).toNat)
          ⟨0, _, by omega, rfl, K17, R17, T17, V17, rfl, rfl, rfl, rfl, rfl, rfl, rfl⟩ ?_
        rintro s ⟨x, N0, hx, tm, K0', R0', T0', V0', t3, t4, t8, t12, t31, t32, t34⟩
        by_cases hlt : x ≤ k.need.length
        · have hlt' : (x : Int) ≤ k.need.length := by omega
          obtain ⟨o1, o2, p1, p2, p3, p4⟩ := cutp x hlt
          simp (config := {implicitDefEqProofs := false, maxDischargeDepth := 20}) (disch := first | omega | (simp only [lenE]; done) | (simp only [lenE]; omega) | rfl | (simp only [lenE, markR_len]; done) | (simp only [lenE, markR_len]; omega)) only [runE, mapE, listE, initT_5, initT_6, initT_7, initT_8, resV, oneV, binA, unA, reduceCtorEq, Nat.reduceEqDiff, Nat.reduceAdd, Nat.reduceLT, Nat.reduceLeDiff, Nat.reduceMul, Nat.reduceSub, ↓reduceIte, decide_true, decide_false, Bool.true_eq_false, Bool.false_eq_true, Bool.not_true, Bool.not_false, if_true, if_false, and_true, true_and, memE, celE, w64, Nat.zero_add, Nat.add_zero, Nat.mul_one, putL, and_self, ldn, tm, t3, t4, t8, t12, t31, t32, t34, kL K0', hlt']
          refine callH_rc (implCut_rc _ _ k 0 x (kC K0')) ?_
          intro r new hA
          rw [o1, cutA_yes o1] at hA
          obtain ⟨w1, w2, w3, w4, rfl, hd, nr⟩ := hA.case
          clear hA
          simp only [Int.toNat_natCast, Int.toNat_zero] at hd
          have K1' := Kx new K0'
          have R1' := R0'.ext new
          have T1' := T0'.ext new
          have V1' := V0'.ext new
          obtain ⟨P1, hP1⟩ : ∃ P, P = N0 ++ new := ⟨_, rfl⟩
          rw [← hP1] at K1' R1' T1' V1' hd ⊢
          clear hP1 nr R0' T0' V0' K0'
          obtain ⟨s1, x1⟩ := box_new (M := P1) hd
          have K2' := Kx [(⟨.own, 26, [w1, w2, w3, w4]⟩ : Blk)] K1'
          have R2' := R1'.ext [(⟨.own, 26, [w1, w2, w3, w4]⟩ : Blk)]
          have T2' := T1'.ext [(⟨.own, 26, [w1, w2, w3, w4]⟩ : Blk)]
          have V2' := V1'.ext [(⟨.own, 26, [w1, w2, w3, w4]⟩ : Blk)]
          have hd2 := hd.ext [(⟨.own, 26, [w1, w2, w3, w4]⟩ : Blk)]
          have b2 : BoxK (P1 ++ [(⟨.own, 26, [w1, w2, w3, w4]⟩ : Blk)]) P1.length w1 w2 w3 w4 := x1
          simp (config := {implicitDefEqProofs := false, maxDischargeDepth := 20}) (disch := first | omega | (simp only [lenE]; done) | (simp only [lenE]; omega) | rfl | (simp only [lenE, markR_len]; done) | (simp only [lenE, markR_len]; omega)) only [runE, mapE, listE, initT_5, initT_6, initT_7, initT_8, resV, oneV, binA, unA, reduceCtorEq, Nat.reduceEqDiff, Nat.reduceAdd, Nat.reduceLT, Nat.reduceLeDiff, Nat.reduceMul, Nat.reduceSub, ↓reduceIte, decide_true, decide_false, Bool.true_eq_false, Bool.false_eq_true, Bool.not_true, Bool.not_false, if_true, if_false, and_true, true_and, memE, celE, w64, Nat.zero_add, Nat.add_zero, Nat.mul_one, putL, and_self, ldn, tm, t3, t4, t8, t12, t31, t32, t34, ext_2_0, ext_2_1, stP_aggL, s1, kL K2']
          clear s1 x1 hd K1' R1' T1' V1'
          generalize P1 ++ [(⟨.own, 26, [w1, w2, w3, w4]⟩ : Blk)] = P2 at *
          generalize P1.length = y1 at *
          refine callH_rc (implCut_rc _ _ k x k.need.length (kC K2')) ?_
          intro r new hA
          rw [o2, cutA_yes o2] at hA
          obtain ⟨z1, z2, z3, z4, rfl, he, nr⟩ := hA.case
          clear hA
          simp only [Int.toNat_natCast, Int.toNat_zero] at he
          have K3' := Kx new K2'
          have R3' := R2'.ext new
          have T3' := T2'.ext new
          have V3' := V2'.ext new
          have hd3 := hd2.ext new
          have b3 := b2.ext new
          obtain ⟨P3, hP3⟩ : ∃ P, P = P2 ++ new := ⟨_, rfl⟩
          rw [← hP3] at K3' R3' T3' V3' hd3 he b3 ⊢
          clear hP3 nr R2' T2' V2' K2' hd2 b2
          obtain ⟨s1, x1⟩ := box_new (M := P3) he
          have K4' := Kx [(⟨.own, 26, [z1, z2, z3, z4]⟩ : Blk)] K3'
          have R4' := R3'.ext [(⟨.own, 26, [z1, z2, z3, z4]⟩ : Blk)]
          have T4' := T3'.ext [(⟨.own, 26, [z1, z2, z3, z4]⟩ : Blk)]
          have V4' := V3'.ext [(⟨.own, 26, [z1, z2, z3, z4]⟩ : Blk)]
          have hd4 := hd3.ext [(⟨.own, 26, [z1, z2, z3, z4]⟩ : Blk)]
          have he4 := he.ext [(⟨.own, 26, [z1, z2, z3, z4]⟩ : Blk)]
          have b4 := b3.ext [(⟨.own, 26, [z1, z2, z3, z4]⟩ : Blk)]
          have g4 : BoxK (P3 ++ [(⟨.own, 26, [z1, z2, z3, z4]⟩ : Blk)]) P3.length z1 z2 z3 z4 := x1
          simp (config := {implicitDefEqProofs := false, maxDischargeDepth := 20}) (disch := first | omega | (simp only [lenE]; done) | (simp only [lenE]; omega) | rfl | (simp only [lenE, markR_len]; done) | (simp only [lenE, markR_len]; omega)) only [runE, mapE, listE, initT_5, initT_6, initT_7, initT_8, resV, oneV, binA, unA, reduceCtorEq, Nat.reduceEqDiff, Nat.reduceAdd, Nat.reduceLT, Nat.reduceLeDiff, Nat.reduceMul, Nat.reduceSub, ↓reduceIte, decide_true, decide_false, Bool.true_eq_false, Bool.false_eq_true, Bool.not_true, Bool.not_false, if_true, if_false, and_true, true_and, memE, celE, w64, Nat.zero_add, Nat.add_zero, Nat.mul_one, putL, and_self, ldn, tm, t3, t4, t8, t12, t31, t32, t34, ext_2_0, ext_2_1, stP_aggL, s1, b4.ld]
          clear s1 x1 hd3 he K3' R3' T3' V3' b3
          generalize P3 ++ [(⟨.own, 26, [z1, z2, z3, z4]⟩ : Blk)] = P4 at *
          generalize P3.length = y2 at *
          refine callH_rc (implBestCost_rc _ _ _ hd4) ?_
          rintro r new ⟨rfl, nr⟩
          rw [p1]
          have K5' := Kx new K4'
          have R5' := R4'.ext new
          have T5' := T4'.ext new
          have V5' := V4'.ext new
          have he5 := he4.ext new
          have g5 := g4.ext new
          obtain ⟨P5, hP5⟩ : ∃ P, P = P4 ++ new := ⟨_, rfl⟩
          rw [← hP5] at K5' R5' T5' V5' he5 g5 ⊢
          clear hP5 nr R4' T4' V4' K4' hd4 he4 b4 g4
          simp (config := {implicitDefEqProofs := false, maxDischargeDepth := 20}) (disch := first | omega | (simp only [lenE]; done) | (simp only [lenE]; omega) | rfl | (simp only [lenE, markR_len]; done) | (simp only [lenE, markR_len]; omega)) only [runE, mapE, listE, initT_5, initT_6, initT_7, initT_8, resV, oneV, binA, unA, reduceCtorEq, Nat.reduceEqDiff, Nat.reduceAdd, Nat.reduceLT, Nat.reduceLeDiff, Nat.reduceMul, Nat.reduceSub, ↓reduceIte, decide_true, decide_false, Bool.true_eq_false, Bool.false_eq_true, Bool.not_true, Bool.not_false, if_true, if_false, and_true, true_and, memE, celE, w64, Nat.zero_add, Nat.add_zero, Nat.mul_one, putL, and_self, ldn, tm, t3, t4, t8, t12, t31, t32, t34, ext_2_0, ext_2_1, g5.ld]
          refine callH_rc (implBestCost_rc _ _ _ he5) ?_
          rintro r new ⟨rfl, nr⟩
          rw [p2]
          have K6' := Kx new K5'
          have R6' := R5'.ext new
          have T6' := T5'.ext new
          have V6' := V5'.ext new
          obtain ⟨P6, hP6⟩ : ∃ P, P = P5 ++ new := ⟨_, rfl⟩
          rw [← hP6] at K6' R6' T6' V6' ⊢
          clear hP6 nr R5' T5' V5' K5' he5 g5
          have hR := R6'.ints (by omega) Rf
          have hT := T6'.ints (by omega) Tf
          have f1 := fb x hlt
          have f2 := bb x hlt
          have hng : ¬ (fo.getD x 0 + ba.getD x 0 < bs) := by omega
          simp (config := {implicitDefEqProofs := false, maxDischargeDepth := 20}) (disch := first | omega | (simp only [lenE]; done) | (simp only [lenE]; omega) | rfl | (simp only [lenE, markR_len]; done) | (simp only [lenE, markR_len]; omega)) only [runE, mapE, listE, initT_5, initT_6, initT_7, initT_8, resV, oneV, binA, unA, reduceCtorEq, Nat.reduceEqDiff, Nat.reduceAdd, Nat.reduceLT, Nat.reduceLeDiff, Nat.reduceMul, Nat.reduceSub, ↓reduceIte, decide_true, decide_false, Bool.true_eq_false, Bool.false_eq_true, Bool.not_true, Bool.not_false, if_true, if_false, and_true, true_and, memE, celE, w64, Nat.zero_add, Nat.add_zero, Nat.mul_one, putL, and_self, ldn, tm, t3, t4, t8, t12, t31, t32, t34, ext_2_0, ext_2_1, hR.at_ x (by omega), hR.ld x (by omega), hT.at_ x (by omega), hT.ld x (by omega), bne_self_eq_false, hng]
          refine callH_rc (vHas_rc _ _ tu _ (V6'.ints (by omega) Vf)) ?_
          rintro r new ⟨rfl, rfl⟩
          rw [List.append_nil, p4]
          simp (config := {implicitDefEqProofs := false, maxDischargeDepth := 20}) (disch := first | omega | (simp only [lenE]; done) | (simp only [lenE]; omega) | rfl | (simp only [lenE, markR_len]; done) | (simp only [lenE, markR_len]; omega)) only [runE, mapE, listE, initT_5, initT_6, initT_7, initT_8, resV, oneV, binA, unA, reduceCtorEq, Nat.reduceEqDiff, Nat.reduceAdd, Nat.reduceLT, Nat.reduceLeDiff, Nat.reduceMul, Nat.reduceSub, ↓reduceIte, decide_true, decide_false, Bool.true_eq_false, Bool.false_eq_true, Bool.not_true, Bool.not_false, if_true, if_false, and_true, true_and, memE, celE, w64, Nat.zero_add, Nat.add_zero, Nat.mul_one, putL, and_self, ldn, tm, t3, t4, t8, t12, t31, t32, t34, ext_2_0, ext_2_1, bne_self_eq_false, beq_self_eq_true, Bool.not_true]
          exact ⟨⟨x + 1, _, by omega, rfl, K6', R6', T6', V6', by simp⟩, by simp [intOf]; omega⟩
        · have hlt' : ¬ ((x : Int) ≤ k.need.length) := by omega
          simp (config := {implicitDefEqProofs := false, maxDischargeDepth := 20}) (disch := first | omega | (simp only [lenE]; done) | (simp only [lenE]; omega) | rfl | (simp only [lenE, markR_len]; done) | (simp only [lenE, markR_len]; omega)) only [runE, mapE, listE, initT_5, initT_6, initT_7, initT_8, resV, oneV, binA, unA, reduceCtorEq, Nat.reduceEqDiff, Nat.reduceAdd, Nat.reduceLT, Nat.reduceLeDiff, Nat.reduceMul, Nat.reduceSub, ↓reduceIte, decide_true, decide_false, Bool.true_eq_false, Bool.false_eq_true, Bool.not_true, Bool.not_false, if_true, if_false, and_true, true_and, memE, celE, w64, Nat.zero_add, Nat.add_zero, Nat.mul_one, putL, and_self, ldn, tm, t3, t4, t8, t12, t31, t32, t34, hlt']
end Go.Proofs.Ytncajinepljdhaa.Ab
end
