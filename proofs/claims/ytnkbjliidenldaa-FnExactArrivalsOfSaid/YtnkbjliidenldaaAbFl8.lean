/- RunOrders, RunRule, ServiceOf: the implementation. -/
import Derived.Test.YtnkbjliidenldaaAbFl7
namespace Go.Proofs.Ytnkbjliidenldaa.Ab
open Go Go.RowKit
set_option linter.unusedVariables false
set_option linter.unusedSimpArgs false

/-- Two parts of an answer that live in new blocks; apart, if that is asked for. -/
def AnsO2 (m : Mem) (dis : Prop) (O1 O2 : Nat → Nat → Mem → Value → Prop) (f : Value → Value → Value) (r : Value) (new : Mem) : Prop :=
  NoRo new ∧ ∃ v1 v2 a b c d, r = f v1 v2 ∧ m.length ≤ a ∧ b ≤ (m ++ new).length ∧ m.length ≤ c ∧ d ≤ (m ++ new).length ∧ (dis → b ≤ c ∨ d ≤ a) ∧ Lv a b (m ++ new) (fun M => O1 a b M v1) ∧ Lv c d (m ++ new) (fun M => O2 c d M v2)
theorem ext_o2 {m M : Mem} {dis : Prop} {O1 O2 : Nat → Nat → Mem → Value → Prop} {f : Value → Value → Value} {v1 v2 : Value} (h : Ext m M) (a b c d : Nat) (ha : m.length ≤ a) (hab : a ≤ b) (hb : b ≤ M.length) (hc : m.length ≤ c) (hcd : c ≤ d) (hd : d ≤ M.length) (hdis : dis → b ≤ c ∨ d ≤ a)
    (h1 : ∀ M' : Mem, (∀ i, a ≤ i → i < b → M'[i]? = M[i]?) → O1 a b M' v1) (h2 : ∀ M' : Mem, (∀ i, c ≤ i → i < d → M'[i]? = M[i]?) → O2 c d M' v2) : newQ m (AnsO2 m dis O1 O2 f) (f v1 v2) M := by
  obtain ⟨n0, rfl, h0⟩ := h
  rw [List.length_append, roM_len] at hb hd
  have key : ∀ i, m.length ≤ i → (m ++ n0)[i]? = (roM m ++ n0)[i]? := fun i hi => by rw [List.getElem?_append_right hi, List.getElem?_append_right (by rw [roM_len]; exact hi), roM_len]
  refine ⟨n0, rfl, h0, h0, v1, v2, a, b, c, d, rfl, ha, by rw [List.length_append]; exact hb, hc, by rw [List.length_append]; exact hd, hdis, ⟨hab, by rw [List.length_append]; exact hb, fun M' hM => h1 M' fun i i1 i2 => ?_⟩, ⟨hcd, by rw [List.length_append]; exact hd, fun M' hM => h2 M' fun i i1 i2 => ?_⟩⟩
  · rw [hM i i1 i2, key i (by omega)]
  · rw [hM i i1 i2, key i (by omega)]
theorem IntsO.of {l : List Int} {lo hi id n fl : Nat} {M : Mem} (h : OwnR M id l) (hn : n = l.length) (hl : l.length ≤ 1048576) (h1 : lo ≤ id) (h2 : id < hi) : ∀ M' : Mem, (∀ i, lo ≤ i → i < hi → M'[i]? = M[i]?) → IntsO l lo hi M' (.slice (some ⟨id, 0, none⟩) n fl) := fun M' hM => by
  subst hn
  exact ⟨hl, id, fl, rfl, h1, h2, h.at_ (hM id h1 h2)⟩
theorem FlO.of {s : Fl} {lo hi : Nat} {M : Mem} {u : Value} (h : IntsP s.under lo hi M u) : ∀ M' : Mem, (∀ i, lo ≤ i → i < hi → M'[i]? = M[i]?) → FlO s lo hi M' (flV s u) := fun M' hM => ⟨u, rfl, h.at_ hM⟩
/-! Orders that are given. -/
theorem givenA (m : Mem) (b : Nat) (ov : Value) (ords : List Int) (n : Nat) (h1 : rdc m b 0 = some ov) (hi : IntsA m ov ords) (hn : n ≤ ords.length) : OrdA m (.func (.func 82) #[] #[.pointer (some ⟨b, 0, none⟩)]) n (givenO ords) := by
  refine ⟨_, _, rfl, fun M hM f A j c k hg hk hu => ?_⟩
  refine rc_of_run mixed ok_impl_RunOrders_1 (by simp) (go_start _ _ _ ?_)
  have k1 := hM.1 _ _ _ h1
  have l1 := rdc_blk2 k1
  have hM2 := (hM.ints hi).ro
  have hka : k < ords.length := by omega
  simp (config := {implicitDefEqProofs := false, maxDischargeDepth := 20}) (disch := first | omega | (simp only [lenE]; done) | (simp only [lenE]; omega) | rfl | (simp only [lenE, markR_len]; done) | (simp only [lenE, markR_len]; omega)) only [runE, mapE, listE, initT_5, initT_6, initT_7, initT_8, resV, oneV, binA, unA, reduceCtorEq, Nat.reduceEqDiff, Nat.reduceAdd, Nat.reduceLT, Nat.reduceLeDiff, Nat.reduceMul, Nat.reduceSub, ↓reduceIte, decide_true, decide_false, Bool.true_eq_false, Bool.false_eq_true, Bool.not_true, Bool.not_false, if_true, if_false, and_true, true_and, memE, celE, w64, Nat.zero_add, Nat.add_zero, Nat.mul_one, putL, and_self, ldn, c_impl_RunOrders_1, r_impl_RunOrders_1, rdc_roM, k1, hM2.at_ k hka, ldA_ext (hM2.ld k hka)]
  exact ext_ansV ((Ext.refl M).one _ _) rfl
/-- The stock of a day as it stands in memory; its order. -/
def stOf : Value → Int
  | .agg a => zOf (a.toList.getD 1 undef)
  | _ => 0
def orOf : Value → Int
  | .agg a => zOf (a.toList.getD 0 undef)
  | _ => 0
theorem funSt {m : Mem} {xs : List Xd} (hs : ∀ x ∈ xs, ∃ A n c, x.2.2 = .slice A n c) : FunG m (.func (.func 84) #[] #[]) (fun x : Value => [x]) (· ∈ xs.map xV) (fun x => .int .i64 (stOf x)) :=
  ⟨_, _, rfl, fun M _ x hx => by
    obtain ⟨z, hz, rfl⟩ := List.mem_map.1 hx
    obtain ⟨A, n, c, hu⟩ := hs z hz
    obtain ⟨o, f, u⟩ := z
    simp only [] at hu
    subst hu
    refine rc_of_run mixed ok_impl_stockBehind (by simp) (go_start _ _ _ ?_)
    simp (config := {implicitDefEqProofs := false, maxDischargeDepth := 20}) (disch := first | omega | (simp only [lenE]; done) | (simp only [lenE]; omega) | rfl | (simp only [lenE, markR_len]; done) | (simp only [lenE, markR_len]; omega)) only [runE, mapE, listE, initT_5, initT_6, initT_7, initT_8, resV, oneV, binA, unA, reduceCtorEq, Nat.reduceEqDiff, Nat.reduceAdd, Nat.reduceLT, Nat.reduceLeDiff, Nat.reduceMul, Nat.reduceSub, ↓reduceIte, decide_true, decide_false, Bool.true_eq_false, Bool.false_eq_true, Bool.not_true, Bool.not_false, if_true, if_false, and_true, true_and, memE, celE, w64, Nat.zero_add, Nat.add_zero, Nat.mul_one, putL, and_self, ldn, c_impl_stockBehind, r_impl_stockBehind, xV]
    exact ext_ansV ((Ext.refl M).one _ _) rfl⟩
theorem funOr {m : Mem} {xs : List Xd} (hs : ∀ x ∈ xs, ∃ A n c, x.2.2 = .slice A n c) : FunG m (.func (.func 87) #[] #[]) (fun x : Value => [x]) (· ∈ xs.map xV) (fun x => .int .i64 (orOf x)) :=
  ⟨_, _, rfl, fun M _ x hx => by
    obtain ⟨z, hz, rfl⟩ := List.mem_map.1 hx
    obtain ⟨A, n, c, hu⟩ := hs z hz
    obtain ⟨o, f, u⟩ := z
    simp only [] at hu
    subst hu
    refine rc_of_run mixed ok_impl_orderOf (by simp) (go_start _ _ _ ?_)
    simp (config := {implicitDefEqProofs := false, maxDischargeDepth := 20}) (disch := first | omega | (simp only [lenE]; done) | (simp only [lenE]; omega) | rfl | (simp only [lenE, markR_len]; done) | (simp only [lenE, markR_len]; omega)) only [runE, mapE, listE, initT_5, initT_6, initT_7, initT_8, resV, oneV, binA, unA, reduceCtorEq, Nat.reduceEqDiff, Nat.reduceAdd, Nat.reduceLT, Nat.reduceLeDiff, Nat.reduceMul, Nat.reduceSub, ↓reduceIte, decide_true, decide_false, Bool.true_eq_false, Bool.false_eq_true, Bool.not_true, Bool.not_false, if_true, if_false, and_true, true_and, memE, celE, w64, Nat.zero_add, Nat.add_zero, Nat.mul_one, putL, and_self, ldn, c_impl_orderOf, r_impl_orderOf, xV]
    exact ext_ansV ((Ext.refl M).one _ _) rfl⟩
theorem xs3 {xs : List Xd} (hs : ∀ x ∈ xs, ∃ A n c, x.2.2 = .slice A n c) : ∀ v ∈ xs.map xV, ∃ a b c, v = .agg #[a, b, c] ∧ onesB [a, b, c] = true := fun v hv => by
  obtain ⟨z, hz, rfl⟩ := List.mem_map.1 hv
  obtain ⟨A, n, c, hu⟩ := hs z hz
  exact ⟨_, _, _, rfl, by rw [hu]; rfl⟩
theorem xs_st (X : List Xd) : ((X.drop 1).map xV).map stOf = stocksC (X.map xP) := by
  unfold stocksC
  rw [List.map_map, ← List.map_drop, List.map_map]
  rfl
theorem xs_or (X : List Xd) : ((X.drop 1).map xV).map orOf = ordersC (X.map xP) := by
  unfold ordersC
  rw [List.map_map, ← List.map_drop, List.map_map]
  rfl
theorem slc3 {id n fl : Nat} (h : 1 ≤ n) : slcA 3 (.slice (some ⟨id, 0, none⟩) n fl) (some (.int .i64 1)) none = some (.slice (some ⟨id, 3, none⟩) (n - 1) 0) := by
  simp [slcA, boundA, h]
theorem givC_eq (f : Fl) (ords asked : List Int) : givC f ords asked = if decide (ords.length = asked.length) = true then daysR (givenO ords) f asked else none := by
  unfold givC daysR
  by_cases hl : ords.length = asked.length
  · rw [if_pos (decide_eq_true hl)]
    cases hf : f.good with
    | false => simp
    | true =>
      by_cases h20 : asked.length ≤ 20
      · cases hn : numsB asked 20 20 with
        | true => simp [hl, h20]
        | false =>
          simp only [hl, h20, decide_true, Bool.and_self, if_true, Bool.and_false, Bool.false_eq_true, if_false]
          cases hc : crs (givenO ords) asked f asked.length with
          | none => rfl
          | some C =>
            have := numsB_iff.2 ⟨h20, crs_asked hc⟩
            rw [hn] at this; cases this
      · have hn : numsB asked 20 20 = false := by simp [numsB, h20]
        simp [h20, hn]
  · simp [hl]
theorem daysR_len {ord : Fl → Nat → Option Int} {f : Fl} {asked : List Int} {C : List (Int × Fl)} (h : daysR ord f asked = some C) : C.length = asked.length + 1 ∧ asked.length ≤ 20 ∧ crs ord asked f asked.length = some C ∧ f.good = true := by
  unfold daysR at h
  split at h
  · rename_i hc
    simp only [Bool.and_eq_true] at hc
    exact ⟨crs_len _ h, (numsB_iff.1 hc.2).1, h, hc.1⟩
  · cases h
theorem implRunOrders_rc (m : Mem) (v ov av : Value) (f : Fl) (ords asked : List Int) (h : FlA m v f) (hO : IntsA m ov ords) (hA : IntsA m av asked) :
    RC Try.prog 36 [v, ov, av] m (AnsO2 m True (IntsO (runStocks f ords asked)) (FlO (runLast f ords asked)) (fun a b => .tuple #[a, b, .bool (runOk f ords asked)])) := by
  refine rc_of_run mixed ok_impl_RunOrders (by simp) (go_start _ _ _ ?_)
  obtain ⟨u, rfl, hu⟩ := h
  obtain ⟨A, j, c, rfl⟩ := hu.sl
  obtain ⟨B, jo, co, rfl⟩ := hO.sl
  have hol := hO.len
  have hal := hA.len
  simp (config := {implicitDefEqProofs := false, maxDischargeDepth := 20}) (disch := first | omega | (simp only [lenE]; done) | (simp only [lenE]; omega) | rfl | (simp only [lenE, markR_len]; done) | (simp only [lenE, markR_len]; omega)) only [runE, mapE, listE, initT_5, initT_6, initT_7, initT_8, resV, oneV, binA, unA, reduceCtorEq, Nat.reduceEqDiff, Nat.reduceAdd, Nat.reduceLT, Nat.reduceLeDiff, Nat.reduceMul, Nat.reduceSub, ↓reduceIte, decide_true, decide_false, Bool.true_eq_false, Bool.false_eq_true, Bool.not_true, Bool.not_false, if_true, if_false, and_true, true_and, memE, celE, w64, Nat.zero_add, Nat.add_zero, Nat.mul_one, putL, and_self, ldn, c_impl_RunOrders, r_impl_RunOrders, hol, hal]
  obtain ⟨E, hE⟩ : ∃ E, E = roM m ++ [⟨.own, FT, [.int .i64 f.stock, .slice A j c]⟩] ++ [⟨.own, 22, [.slice B jo co]⟩] ++ [⟨.own, FT, [.int .i64 0, .slice none 0 0]⟩] := ⟨_, rfl⟩
  have hX : Ext m E := by rw [hE]; exact (((Ext.refl m).one _ _).one _ _).one _ _
  have LE : E.length = m.length + 3 := by rw [hE]; simp [roM_len]
  have b1 : OwnB E m.length FT [.int .i64 f.stock, .slice A j c] := by rw [hE]; exact ((OwnB.here (roM_len m).symm).ext _).ext _
  have b2 : OwnB E (m.length + 1) 22 [.slice B jo co] := by rw [hE]; exact (OwnB.here (by simp [roM_len])).ext _
  have b3 : OwnB E (m.length + 2) FT [.int .i64 0, .slice none 0 0] := by rw [hE]; exact OwnB.here (by simp [roM_len])
  try rw [← hE]
  clear hE
  have no : ∀ (M : Mem) (id fl : Nat), Ext m M → givC f ords asked = none → m.length ≤ id → OwnR M id [] → newQ m (AnsO2 m True (IntsO (runStocks f ords asked)) (FlO (runLast f ords asked)) (fun a b => .tuple #[a, b, .bool (runOk f ords asked)])) (.tuple #[.slice (some ⟨id, 0, none⟩) 0 fl, .agg #[.int .i64 0, .slice none 0 0], .bool false]) M := fun M id fl hM hr hid ho => by
    have e1 : runStocks f ords asked = [] := by unfold runStocks; rw [hr]
    have e2 : runLast f ords asked = Fl0 := by unfold runLast; rw [hr]
    have e3 : runOk f ords asked = false := by unfold runOk; rw [hr]; rfl
    rw [e1, e2, e3]
    have := hM.len
    exact ext_o2 (f := fun a b => .tuple #[a, b, .bool false]) hM m.length M.length m.length m.length (Nat.le_refl _) this (Nat.le_refl _) (Nat.le_refl _) (Nat.le_refl _) this (fun _ => .inr (Nat.le_refl _)) (IntsO.of ho rfl (by simp) hid ho.lt) (fun M' _ => FlO.zero _ _ _)
  have f3 : ∀ M : Mem, OwnB M (m.length + 2) FT [.int .i64 0, .slice none 0 0] → stA M (m.length + 2) 0 [.int .i64 0, .slice none 0 0] = some (M.set (m.length + 2) ⟨.own, FT, [.int .i64 0, .slice none 0 0]⟩) := fun M hb => hb.st (by simp) rfl
  by_cases hl : ords.length = asked.length
  · have hl' : ((ords.length : Int) != asked.length) = false := by rw [hl]; exact bne_self_eq_false _
    try simp (config := {implicitDefEqProofs := false, maxDischargeDepth := 20}) (disch := first | omega | (simp only [lenE]; done) | (simp only [lenE]; omega) | rfl | (simp only [lenE, markR_len]; done) | (simp only [lenE, markR_len]; omega)) only [runE, mapE, listE, initT_5, initT_6, initT_7, initT_8, resV, oneV, binA, unA, reduceCtorEq, Nat.reduceEqDiff, Nat.reduceAdd, Nat.reduceLT, Nat.reduceLeDiff, Nat.reduceMul, Nat.reduceSub, ↓reduceIte, decide_true, decide_false, Bool.true_eq_false, Bool.false_eq_true, Bool.not_true, Bool.not_false, if_true, if_false, and_true, true_and, memE, celE, w64, Nat.zero_add, Nat.add_zero, Nat.mul_one, putL, and_self, ldn, b2.mk1', hol, hal, hl', b1.mk2']
    have hKE := hX.keeps
    refine callH_rc (daysOf_rc _ _ av _ f asked (givenO ords) ⟨_, rfl, hKE.ints hu⟩ (hKE.ints hA) (givenA E (m.length + 1) _ ords asked.length b2.mk1' (hKE.ints hO) (by omega))) ?_
    rintro r n1 ⟨hn1, id, n, fl, rfl, hdays⟩
    have hX1 := hX.app hn1
    have c3 := b3.ext n1
    have L1 : m.length + 3 ≤ (E ++ n1).length := by rw [List.length_append]; omega
    have hLl : E.length + n1.length = (E ++ n1).length := by rw [List.length_append]
    rw [hLl] at hdays
    obtain ⟨M, hM⟩ : ∃ M, M = E ++ n1 := ⟨_, rfl⟩
    rw [← hM] at hX1 c3 L1 hdays ⊢
    clear hM hLl
    have eR : givC f ords asked = daysR (givenO ords) f asked := by rw [givC_eq, if_pos (decide_eq_true hl)]
    cases hr : daysR (givenO ords) f asked with
    | none =>
      simp only [Option.isSome_none]
      have c4 := c3.ext [⟨.own, 3, []⟩]
      have p4 : OwnB ((M ++ [(⟨.own, 3, []⟩ : Blk)]).set (m.length + 2) ⟨.own, FT, [.int .i64 0, .slice none 0 0]⟩) (m.length + 2) FT [.int .i64 0, .slice none 0 0] := c4.set_self _ _
      simp (config := {implicitDefEqProofs := false, maxDischargeDepth := 20}) (disch := first | omega | (simp only [lenE]; done) | (simp only [lenE]; omega) | rfl | (simp only [lenE, markR_len]; done) | (simp only [lenE, markR_len]; omega)) only [runE, mapE, listE, initT_5, initT_6, initT_7, initT_8, resV, oneV, binA, unA, reduceCtorEq, Nat.reduceEqDiff, Nat.reduceAdd, Nat.reduceLT, Nat.reduceLeDiff, Nat.reduceMul, Nat.reduceSub, ↓reduceIte, decide_true, decide_false, Bool.true_eq_false, Bool.false_eq_true, Bool.not_true, Bool.not_false, if_true, if_false, and_true, true_and, memE, celE, w64, Nat.zero_add, Nat.add_zero, Nat.mul_one, putL, and_self, ldn, ext_2_0, ext_2_1, bsl_none, bld_fl0, stP_agg2f, putL, f3 _ c4, p4.mk2']
      refine no _ _ 1 ((hX1.one _ _).put (by omega) _ _) (by rw [eR, hr]) hX1.len ?_
      exact (OwnR.end' (l := []) rfl).set_ne (by omega)
    | some C =>
      obtain ⟨X, hXC, rfl, hid, ho, hP⟩ := hdays C hr
      obtain ⟨hCl, h20, hcr, hgf⟩ := daysR_len hr
      have hXl : X.length = asked.length + 1 := by rw [← hCl, ← hXC, List.length_map]
      have hsl : ∀ x ∈ X.drop 1, ∃ A n c, x.2.2 = .slice A n c := fun x hx => (hP x (List.mem_of_mem_drop hx)).in.sl
      simp only [Option.isSome_some]
      have hd := own_day ho (k := asked.length) (by omega)
      have hel := own_el ho (by omega) 1 (by omega)
      rw [Nat.one_mul] at hel
      have hlast : X.getD asked.length X0 ∈ X := by rw [List.getD_eq_getElem?_getD, List.getElem?_eq_getElem (by omega)]; exact List.getElem_mem _
      obtain ⟨xl, hxl⟩ : ∃ xl, xl = X.getD asked.length X0 := ⟨_, rfl⟩
      rw [← hxl] at hd hlast
      obtain ⟨xo, xf, xu⟩ := xl
      have hPl := hP _ hlast
      obtain ⟨A2, j2, c2, hxu⟩ := hPl.in.sl
      simp only [] at hxu hPl
      subst hxu
      have e0 : ((X.length : Int) - 1) = ((asked.length : Nat) : Int) := by omega
      have ei := iadA_in (id := id) (off := 0) (n := X.length) (fl := fl) (sz := 3) (k := .i64) (j := asked.length) (by omega)
      rw [Nat.zero_add] at ei
      simp (config := {implicitDefEqProofs := false, maxDischargeDepth := 20}) (disch := first | omega | (simp only [lenE]; done) | (simp only [lenE]; omega) | rfl | (simp only [lenE, markR_len]; done) | (simp only [lenE, markR_len]; omega)) only [runE, mapE, listE, initT_5, initT_6, initT_7, initT_8, resV, oneV, binA, unA, reduceCtorEq, Nat.reduceEqDiff, Nat.reduceAdd, Nat.reduceLT, Nat.reduceLeDiff, Nat.reduceMul, Nat.reduceSub, ↓reduceIte, decide_true, decide_false, Bool.true_eq_false, Bool.false_eq_true, Bool.not_true, Bool.not_false, if_true, if_false, and_true, true_and, memE, celE, w64, Nat.zero_add, Nat.add_zero, Nat.mul_one, putL, and_self, ldn, ext_2_0, ext_2_1, slc3 (id := id) (fl := fl) (show 1 ≤ X.length by omega), Option.map_none, e0, ei, hd.2]
      refine rcallH_rc (eachD_rc _ _ _ _ stOf (xs3 hsl) hel (funSt hsl) (by rw [List.length_map, List.length_drop]; omega)) ?_
      intro r n2 hA2
      obtain ⟨i2, f2, rfl, hi2, ho2, hl2, hn2⟩ := hA2.row
      rw [xs_st, hXC] at ho2 hl2
      simp only [xs_st, hXC]
      have hX2 := hX1.app hn2
      have c4 := c3.ext n2
      have L2 : (M ++ n2).length = M.length + n2.length := List.length_append
      obtain ⟨M2, hM2⟩ : ∃ M2, M2 = M ++ n2 := ⟨_, rfl⟩
      have hPl2 : IntsP xf.under m.length M.length M2 (.slice A2 j2 c2) := by
        rw [hM2]
        exact (IntsP.wide _ _ _ _ _ _ _ (by omega) (Nat.le_refl _) hPl).ext (Nat.le_refl _) n2
      rw [← hM2] at hX2 c4 ho2 L2 ⊢
      clear hM2
      have s4 := c4.st (off := 0) (vs := [.int .i64 xf.stock, .slice A2 j2 c2]) (by simp) rfl
      have p4 : OwnB (M2.set (m.length + 2) ⟨.own, FT, [.int .i64 xf.stock, .slice A2 j2 c2]⟩) (m.length + 2) FT [.int .i64 xf.stock, .slice A2 j2 c2] := c4.set_self _ _
      simp (config := {implicitDefEqProofs := false, maxDischargeDepth := 20}) (disch := first | omega | (simp only [lenE]; done) | (simp only [lenE]; omega) | rfl | (simp only [lenE, markR_len]; done) | (simp only [lenE, markR_len]; omega)) only [runE, mapE, listE, initT_5, initT_6, initT_7, initT_8, resV, oneV, binA, unA, reduceCtorEq, Nat.reduceEqDiff, Nat.reduceAdd, Nat.reduceLT, Nat.reduceLeDiff, Nat.reduceMul, Nat.reduceSub, ↓reduceIte, decide_true, decide_false, Bool.true_eq_false, Bool.false_eq_true, Bool.not_true, Bool.not_false, if_true, if_false, and_true, true_and, memE, celE, w64, Nat.zero_add, Nat.add_zero, Nat.mul_one, putL, and_self, ldn, stP_agg2f, putL, s4, p4.mk2']
      have e1 : runStocks f ords asked = stocksC C := by unfold runStocks; rw [eR, hr]
      have e2 : runLast f ords asked = xf := by
        unfold runLast
        rw [eR, hr, ← hXC]
        simp only [List.getD_eq_getElem?_getD, List.getElem?_map]
        rw [List.getD_eq_getElem?_getD] at hxl
        rw [List.getElem?_eq_getElem (show asked.length < X.length by omega)] at hxl ⊢
        simp only [Option.getD_some, Option.map_some] at hxl ⊢
        rw [← hxl]; rfl
      have e3 : runOk f ords asked = true := by unfold runOk; rw [eR, hr]; rfl
      rw [e1, e2, e3]
      have hlt2 := ho2.lt
      have hmM := hX1.len
      refine ext_o2 (f := fun a b => .tuple #[a, b, .bool true]) (hX2.put (by omega) _ _) M.length M2.length m.length M.length hmM (by omega) (by rw [List.length_set]; exact Nat.le_refl _) (Nat.le_refl _) hmM (by rw [List.length_set]; omega) (fun _ => .inr (Nat.le_refl _)) (IntsO.of (ho2.set_ne (by omega)) rfl hl2 hi2 hlt2) (FlO.of (hPl2.other c4 (by decide) _))
  · have hl' : ((ords.length : Int) != asked.length) = true := by rw [bne_iff_ne]; omega
    have c4 := b3.ext [⟨.own, 3, []⟩]
    have p4 : OwnB ((E ++ [(⟨.own, 3, []⟩ : Blk)]).set (m.length + 2) ⟨.own, FT, [.int .i64 0, .slice none 0 0]⟩) (m.length + 2) FT [.int .i64 0, .slice none 0 0] := c4.set_self _ _
    have eL : m.length + 3 = E.length := LE.symm
    simp (config := {implicitDefEqProofs := false, maxDischargeDepth := 20}) (disch := first | omega | (simp only [lenE]; done) | (simp only [lenE]; omega) | rfl | (simp only [lenE, markR_len]; done) | (simp only [lenE, markR_len]; omega)) only [runE, mapE, listE, initT_5, initT_6, initT_7, initT_8, resV, oneV, binA, unA, reduceCtorEq, Nat.reduceEqDiff, Nat.reduceAdd, Nat.reduceLT, Nat.reduceLeDiff, Nat.reduceMul, Nat.reduceSub, ↓reduceIte, decide_true, decide_false, Bool.true_eq_false, Bool.false_eq_true, Bool.not_true, Bool.not_false, if_true, if_false, and_true, true_and, memE, celE, w64, Nat.zero_add, Nat.add_zero, Nat.mul_one, putL, and_self, ldn, b2.mk1', hol, hal, hl', bsl_none, bld_fl0, stP_agg2f, putL, f3 _ c4, p4.mk2']
    exact no _ _ 1 ((hX.one _ _).put (by omega) _ _) (by rw [givC_eq]; simp [hl]) (by first | exact hX.len | omega) ((OwnR.end' (l := []) (by first | rfl | omega)).set_ne (by omega))
end Go.Proofs.Ytnkbjliidenldaa.Ab
