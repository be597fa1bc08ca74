/- Straight leads: the implementation. -/
import Derived.Test.YtnkbjliidenldaaAbFl18
namespace Go.Proofs.Ytnkbjliidenldaa.Ab
open Go Go.RowKit
set_option linter.unusedVariables false
set_option linter.unusedSimpArgs false

theorem VL.oneS {ρ : Places} {x : Value} {cs : List Value} (h : VL ρ [x] cs) : ∃ y, cs = [y] ∧ VR ρ x y := by
  obtain ⟨hl, hp⟩ := h
  match cs, hl with
  | [y], _ => exact ⟨y, rfl, hp 0 x y rfl rfl⟩
theorem FnOk.fnS {P : Program} {f : FuncId} {n : Nat} {c : ACode} {res : List ARes} (hf : FnOk P f n c res) : ∃ fn, P.funcs[f]? = some fn ∧ (fn.name == "runtime.NumGoroutine") = false ∧ fn.body.isNone = false := by
  obtain ⟨fn, C, hfn, hname, hb, _⟩ := hf.ok
  exact ⟨fn, hfn, hname, by rw [hb]; rfl⟩
theorem bitsLen_rc (m : Mem) (x : Int) (h0 : 0 ≤ x) (h1 : x ≤ 18446744073709551615) : RC Try.prog 136 [.int .u64 x] m fun r new => (∃ y, r = .int .i64 y) ∧ new = [] := by
  refine ⟨ok_math_bits_Len.fnS, fun ρ w cargs hm ha => ?_⟩
  obtain ⟨y, rfl, hy⟩ := ha.oneS
  cases hy
  refine (Try.bits_Len x w h0 h1).mono ?_
  rintro e w' ⟨rfl, rfl⟩
  exact ⟨.int .i64 _, _, [], [], rfl, ⟨⟨_, rfl⟩, rfl⟩, noRo_nil, by simpa using hm, .int _ _⟩
theorem pdq_ac (m : Mem) (id fl : Nat) (L : List Int) (y : Int) (h : OwnR m id L) (hl : L.length ≤ 12) :
    AC Try.prog 135 [.slice (some ⟨id, 0, none⟩) L.length fl, .int .i64 0, .int .i64 L.length, .int .i64 y] m fun _ m' => m' = m.set id (rowB (insA L L.length)) := by
  refine ac_of_run mixed ok_slices_pdqsortOrdered (by simp) (go_start _ _ _ ?_)
  have hl' : (L.length : Int) ≤ 12 := by omega
  simp (config := {implicitDefEqProofs := false, maxDischargeDepth := 20}) (disch := first | omega | (simp only [lenE]; done) | (simp only [lenE]; omega) | rfl | (simp only [lenE, markR_len]; done) | (simp only [lenE, markR_len]; omega)) only [runE, mapE, listE, initT_5, initT_6, initT_7, initT_8, resV, oneV, binA, unA, reduceCtorEq, Nat.reduceEqDiff, Nat.reduceAdd, Nat.reduceLT, Nat.reduceLeDiff, Nat.reduceMul, Nat.reduceSub, ↓reduceIte, decide_true, decide_false, Bool.true_eq_false, Bool.false_eq_true, Bool.not_true, Bool.not_false, if_true, if_false, and_true, true_and, memE, celE, w64, Nat.zero_add, Nat.add_zero, Nat.mul_one, putL, and_self, ldn, c_slices_pdqsortOrdered, r_slices_pdqsortOrdered]
  refine loop_inv mixed (fun s => s.m = m ∧ s.t 0 = .slice (some ⟨id, 0, none⟩) L.length fl ∧ s.t 1 = .int .i64 0 ∧ s.t 2 = .int .i64 L.length) (fun s => 0) ⟨rfl, rfl, rfl, rfl⟩ ?_
  rintro s ⟨tm, t0, t1, t2⟩
  simp (config := {implicitDefEqProofs := false, maxDischargeDepth := 20}) (disch := first | omega | (simp only [lenE]; done) | (simp only [lenE]; omega) | rfl | (simp only [lenE, markR_len]; done) | (simp only [lenE, markR_len]; omega)) only [runE, mapE, listE, initT_5, initT_6, initT_7, initT_8, resV, oneV, binA, unA, reduceCtorEq, Nat.reduceEqDiff, Nat.reduceAdd, Nat.reduceLT, Nat.reduceLeDiff, Nat.reduceMul, Nat.reduceSub, ↓reduceIte, decide_true, decide_false, Bool.true_eq_false, Bool.false_eq_true, Bool.not_true, Bool.not_false, if_true, if_false, and_true, true_and, memE, celE, w64, Nat.zero_add, Nat.add_zero, Nat.mul_one, putL, and_self, ldn, tm, t0, t1, t2, Int.sub_zero, hl']
  refine callH_ac (insertSort_ac m id fl L h hl) ?_
  rintro r m' rfl
  simp (config := {implicitDefEqProofs := false, maxDischargeDepth := 20}) (disch := first | omega | (simp only [lenE]; done) | (simp only [lenE]; omega) | rfl | (simp only [lenE, markR_len]; done) | (simp only [lenE, markR_len]; omega)) only [runE, mapE, listE, initT_5, initT_6, initT_7, initT_8, resV, oneV, binA, unA, reduceCtorEq, Nat.reduceEqDiff, Nat.reduceAdd, Nat.reduceLT, Nat.reduceLeDiff, Nat.reduceMul, Nat.reduceSub, ↓reduceIte, decide_true, decide_false, Bool.true_eq_false, Bool.false_eq_true, Bool.not_true, Bool.not_false, if_true, if_false, and_true, true_and, memE, celE, w64, Nat.zero_add, Nat.add_zero, Nat.mul_one, putL, and_self, ldn]
theorem sort_ac (m : Mem) (id fl : Nat) (L : List Int) (h : OwnR m id L) (hl : L.length ≤ 12) :
    AC Try.prog 113 [.slice (some ⟨id, 0, none⟩) L.length fl] m fun _ m' => m' = m.set id (rowB (insA L L.length)) := by
  refine ac_of_run mixed ok_slices_Sort (by simp) (go_start _ _ _ ?_)
  have hl' : (L.length : Int) ≤ 12 := by omega
  simp (config := {implicitDefEqProofs := false, maxDischargeDepth := 20}) (disch := first | omega | (simp only [lenE]; done) | (simp only [lenE]; omega) | rfl | (simp only [lenE, markR_len]; done) | (simp only [lenE, markR_len]; omega)) only [runE, mapE, listE, initT_5, initT_6, initT_7, initT_8, resV, oneV, binA, unA, reduceCtorEq, Nat.reduceEqDiff, Nat.reduceAdd, Nat.reduceLT, Nat.reduceLeDiff, Nat.reduceMul, Nat.reduceSub, ↓reduceIte, decide_true, decide_false, Bool.true_eq_false, Bool.false_eq_true, Bool.not_true, Bool.not_false, if_true, if_false, and_true, true_and, memE, celE, w64, Nat.zero_add, Nat.add_zero, Nat.mul_one, putL, and_self, ldn, c_slices_Sort, r_slices_Sort]
  have hw : IntKind.u64.wrap (L.length : Int) = L.length := IntWalk.u64_in _ ⟨by omega, by omega⟩
  refine callH_rc (bitsLen_rc _ _ (by omega) (by omega)) ?_
  rintro r new ⟨⟨y, rfl⟩, rfl⟩
  rw [List.append_nil]
  simp (config := {implicitDefEqProofs := false, maxDischargeDepth := 20}) (disch := first | omega | (simp only [lenE]; done) | (simp only [lenE]; omega) | rfl | (simp only [lenE, markR_len]; done) | (simp only [lenE, markR_len]; omega)) only [runE, mapE, listE, initT_5, initT_6, initT_7, initT_8, resV, oneV, binA, unA, reduceCtorEq, Nat.reduceEqDiff, Nat.reduceAdd, Nat.reduceLT, Nat.reduceLeDiff, Nat.reduceMul, Nat.reduceSub, ↓reduceIte, decide_true, decide_false, Bool.true_eq_false, Bool.false_eq_true, Bool.not_true, Bool.not_false, if_true, if_false, and_true, true_and, memE, celE, w64, Nat.zero_add, Nat.add_zero, Nat.mul_one, putL, and_self, ldn]
  refine callH_ac (pdq_ac m id fl L y h hl) ?_
  rintro r m' rfl
  simp (config := {implicitDefEqProofs := false, maxDischargeDepth := 20}) (disch := first | omega | (simp only [lenE]; done) | (simp only [lenE]; omega) | rfl | (simp only [lenE, markR_len]; done) | (simp only [lenE, markR_len]; omega)) only [runE, mapE, listE, initT_5, initT_6, initT_7, initT_8, resV, oneV, binA, unA, reduceCtorEq, Nat.reduceEqDiff, Nat.reduceAdd, Nat.reduceLT, Nat.reduceLeDiff, Nat.reduceMul, Nat.reduceSub, ↓reduceIte, decide_true, decide_false, Bool.true_eq_false, Bool.false_eq_true, Bool.not_true, Bool.not_false, if_true, if_false, and_true, true_and, memE, celE, w64, Nat.zero_add, Nat.add_zero, Nat.mul_one, putL, and_self, ldn]
/-! The parcels with other leads. -/
def sameB (L : List Pc) : Bool := L.all fun p => p.amount == (L.getD 0 Pc0).amount
def strOk (L : List Pc) : Bool := parB L && sameB L
def arrD (L : List Pc) : List Int := L.map fun p => p.day + p.lead
def strC (L : List Pc) (k : Nat) : Pc := ⟨(L.getD k Pc0).day, (L.getD k Pc0).amount, (insA (arrD L) L.length).getD k 0 - (L.getD k Pc0).day⟩
def strTo (L : List Pc) (n : Nat) : List Pc := (List.range n).map (strC L)
theorem strTo_len (L : List Pc) (n : Nat) : (strTo L n).length = n := by simp [strTo]
theorem strTo_s (L : List Pc) (n : Nat) : strTo L (n + 1) = strTo L n ++ [strC L n] := by simp [strTo, List.range_succ]
def strA (L : List Pc) : List Pc := if strOk L then strTo L L.length else []
theorem map_arr (L : List Pc) : (L.map pcV).map (fun x => (pcOf x).day + (pcOf x).lead) = arrD L := by rw [List.map_map]; rfl
theorem any_other (L : List Pc) : (L.map pcV).any (fun x => (pcOf x).amount != (L.getD 0 Pc0).amount) = !sameB L := by
  rw [List.any_map]
  unfold sameB
  rw [List.not_all_eq_any_not]; rfl
theorem funArr {m : Mem} {L : List Pc} (hG : GoodL L) : FunG m (.func (.func 112) #[] #[]) (fun x : Value => [x]) (· ∈ L.map pcV) (fun x => .int .i64 ((pcOf x).day + (pcOf x).lead)) :=
  ⟨_, _, rfl, fun M _ x hx => by
    obtain ⟨p, hp, rfl⟩ := List.mem_map.1 hx
    obtain ⟨k, hk, rfl⟩ := List.getElem_of_mem hp
    have := hG.all k hk
    rw [List.getD_eq_getElem?_getD, List.getElem?_eq_getElem hk] at this
    exact arrivalOf_rc M _ this⟩
theorem funOther (m : Mem) (b : Nat) (v : Value) (L : List Pc) (h1 : rdc m b 0 = some v) (h : PcsA m v L) :
    FunG m (.func (.func 109) #[] #[.pointer (some ⟨b, 0, none⟩)]) (fun x : Value => [x]) (· ∈ L.map pcV) (fun x => .bool ((pcOf x).amount != (L.getD 0 Pc0).amount)) := by
  refine ⟨_, _, rfl, fun M hM x hx => ?_⟩
  obtain ⟨p, hp, rfl⟩ := List.mem_map.1 hx
  have hpos : 0 < L.length := List.length_pos_of_mem hp
  refine rc_of_run mixed ok_impl_StraightLeads_1 (by simp) (go_start _ _ _ ?_)
  have k1 : rdc M b 0 = some v := hM.1 _ _ _ h1
  have l1 : ∀ new, rdc (roM M ++ new) b 0 = some v := fun new => rdc_ext (by rw [rdc_roM]; exact k1)
  have hA := hM.pcs h
  have hX : Ext M (roM M ++ [⟨.own, 113, [.int .i64 p.day, .int .i64 p.amount, .int .i64 p.lead]⟩]) := (Ext.refl M).one _ _
  have hB := hX.keeps.pcs hA
  have j1 : iadA 3 v (.int .i64 0) = some (pPc v 0) := hB.at_ hpos
  obtain ⟨q0, f0, g0⟩ := hB.fld hpos 1 (by decide)
  replace g0 : ldA (roM M ++ [⟨.own, 113, [.int .i64 p.day, .int .i64 p.amount, .int .i64 p.lead]⟩]) none q0 = some (.int .i64 (L.getD 0 Pc0).amount) := g0
  generalize (L.getD 0 Pc0).amount = y at *
  simp (config := {implicitDefEqProofs := false, maxDischargeDepth := 20}) (disch := first | omega | (simp only [lenE]; done) | (simp only [lenE]; omega) | rfl | (simp only [lenE, markR_len]; done) | (simp only [lenE, markR_len]; omega)) only [runE, mapE, listE, initT_5, initT_6, initT_7, initT_8, resV, oneV, binA, unA, reduceCtorEq, Nat.reduceEqDiff, Nat.reduceAdd, Nat.reduceLT, Nat.reduceLeDiff, Nat.reduceMul, Nat.reduceSub, ↓reduceIte, decide_true, decide_false, Bool.true_eq_false, Bool.false_eq_true, Bool.not_true, Bool.not_false, if_true, if_false, and_true, true_and, memE, celE, w64, Nat.zero_add, Nat.add_zero, Nat.mul_one, putL, and_self, ldn, c_impl_StraightLeads_1, r_impl_StraightLeads_1, pcV, l1, j1, f0, g0]
  exact ext_ansV hX rfl
theorem bsl_pc {m : Mem} {e : TypeId} {a b c : Int} : bslA m e 3 1 [.int .i64 0, .int .i64 0, .int .i64 0] [(0, 3, .agg #[.int .i64 a, .int .i64 b, .int .i64 c])] = some (.slice (some ⟨m.length, 0, none⟩) 1 3, m ++ [⟨.own, e, [.int .i64 a, .int .i64 b, .int .i64 c]⟩]) := rfl
theorem pcsC_sS (L : List Pc) (p : Pc) : pcsC (L ++ [p]) = pcsC L ++ [.int .i64 p.day, .int .i64 p.amount, .int .i64 p.lead] := by simp [pcsC, pcC]
theorem ext_pcs {m M : Mem} {L : List Pc} {id n : Nat} {e : TypeId} {f : Value → Value} (h : Ext m M) (ho : OwnB M id e (pcsC L)) (hid : m.length ≤ id) (hn : n = L.length) (hl : L.length ≤ 1048576) :
    newQ m (AnsO m (PcsO e L) f) (f (.slice (some ⟨id, 0, none⟩) n 3)) M := by
  subst hn
  exact ext_ansO h fun M' hM => ⟨hl, id, 3, rfl, hid, ho.lt, ho.at_ (hM _ hid ho.lt)⟩
theorem insA_bd {L : List Int} {a b : Int} (h : ∀ k, k < L.length → a ≤ L.getD k 0 ∧ L.getD k 0 ≤ b) : ∀ i, i ≤ L.length → ∀ k, k < i → a ≤ (insA L i).getD k 0 ∧ (insA L i).getD k 0 ≤ b
  | 0, _, k, hk => absurd hk (by omega)
  | i + 1, hi, k, hk => by
    have ih := insA_bd h i (by omega)
    have hl := insA_len L i
    have hp := posP_le (insA L i) (L.getD i 0)
    simp only [insA]
    rw [insP_at]
    split
    · exact ih k (by omega)
    · split
      · exact h i (by omega)
      · exact ih (k - 1) (by omega)
theorem arrD_at {L : List Pc} {k : Nat} (h : k < L.length) : (arrD L).getD k 0 = (L.getD k Pc0).day + (L.getD k Pc0).lead := by
  simp [arrD, List.getD_eq_getElem?_getD, List.getElem?_map, h]
theorem arrD_len (L : List Pc) : (arrD L).length = L.length := by simp [arrD]
theorem strBd {L : List Pc} (hG : GoodL L) {k : Nat} (hk : k < L.length) : 1 ≤ (insA (arrD L) L.length).getD k 0 ∧ (insA (arrD L) L.length).getD k 0 ≤ 24 :=
  insA_bd (fun j hj => by
    rw [arrD_len] at hj
    rw [arrD_at hj]
    have := hG.all j hj
    have h1 := this.day
    have h2 := this.lead
    omega) L.length (by rw [arrD_len]; omega) k hk
set_option maxHeartbeats 4000000 in
theorem implStraight_rc (m : Mem) (v : Value) (L : List Pc) (h : PcsA m v L) : RC Try.prog 62 [v] m (AnsO m (PcsO 113 (strA L)) fun v => .tuple #[v, .bool (strOk L)]) := by
  refine rc_of_run mixed ok_impl_StraightLeads (by simp) (go_start _ _ _ ?_)
  have hl := h.len
  obtain ⟨gid, gfl, hv⟩ : ∃ gid gfl, v = .slice (some ⟨gid, 0, none⟩) L.length gfl := by obtain ⟨_, gid, gfl, e, _⟩ := h; exact ⟨_, _, e⟩
  subst hv
  simp (config := {implicitDefEqProofs := false, maxDischargeDepth := 20}) (disch := first | omega | (simp only [lenE]; done) | (simp only [lenE]; omega) | rfl | (simp only [lenE, markR_len]; done) | (simp only [lenE, markR_len]; omega)) only [runE, mapE, listE, initT_5, initT_6, initT_7, initT_8, resV, oneV, binA, unA, reduceCtorEq, Nat.reduceEqDiff, Nat.reduceAdd, Nat.reduceLT, Nat.reduceLeDiff, Nat.reduceMul, Nat.reduceSub, ↓reduceIte, decide_true, decide_false, Bool.true_eq_false, Bool.false_eq_true, Bool.not_true, Bool.not_false, if_true, if_false, and_true, true_and, memE, celE, w64, Nat.zero_add, Nat.add_zero, Nat.mul_one, putL, and_self, ldn, c_impl_StraightLeads, r_impl_StraightLeads]
  obtain ⟨E, hE⟩ : ∃ E, E = roM m ++ [⟨.own, 66, [.slice (some ⟨gid, 0, none⟩) L.length gfl]⟩] := ⟨_, rfl⟩
  have hX : Ext m E := by rw [hE]; exact (Ext.refl m).one _ _
  have b1 : OwnB E m.length 66 [.slice (some ⟨gid, 0, none⟩) L.length gfl] := by rw [hE]; exact OwnB.here (roM_len m).symm
  try rw [← hE]
  clear hE
  have no : ∀ M, Ext m M → strOk L = false → newQ m (AnsO m (PcsO 113 (strA L)) fun v => .tuple #[v, .bool (strOk L)]) (.tuple #[.slice (some ⟨M.length, 0, none⟩) 0 3, .bool false]) (M ++ [⟨.own, 113, []⟩]) := fun M hM hno => by
    have e : strA L = [] := by unfold strA; rw [hno]; rfl
    rw [e, hno]
    exact ext_pcs (f := fun v => .tuple #[v, .bool false]) (hM.one _ _) (OwnB.here rfl) hM.len rfl (by simp)
  try simp (config := {implicitDefEqProofs := false, maxDischargeDepth := 20}) (disch := first | omega | (simp only [lenE]; done) | (simp only [lenE]; omega) | rfl | (simp only [lenE, markR_len]; done) | (simp only [lenE, markR_len]; omega)) only [runE, mapE, listE, initT_5, initT_6, initT_7, initT_8, resV, oneV, binA, unA, reduceCtorEq, Nat.reduceEqDiff, Nat.reduceAdd, Nat.reduceLT, Nat.reduceLeDiff, Nat.reduceMul, Nat.reduceSub, ↓reduceIte, decide_true, decide_false, Bool.true_eq_false, Bool.false_eq_true, Bool.not_true, Bool.not_false, if_true, if_false, and_true, true_and, memE, celE, w64, Nat.zero_add, Nat.add_zero, Nat.mul_one, putL, and_self, ldn, b1.mk1']
  refine callH_rc (areParcels_rc _ _ L (hX.keeps.pcs h)) ?_
  rintro r n1 ⟨rfl, hn1⟩
  obtain ⟨E1, hE1⟩ : ∃ E1, E1 = E ++ n1 := ⟨_, rfl⟩
  have hX1 : Ext m E1 := by rw [hE1]; exact hX.app hn1
  have b2 : OwnB E1 m.length 66 [.slice (some ⟨gid, 0, none⟩) L.length gfl] := by rw [hE1]; exact b1.ext _
  rw [← hE1]
  clear hE1 b1 hX
  cases h1 : parB L with
  | false =>
    simp (config := {implicitDefEqProofs := false, maxDischargeDepth := 20}) (disch := first | omega | (simp only [lenE]; done) | (simp only [lenE]; omega) | rfl | (simp only [lenE, markR_len]; done) | (simp only [lenE, markR_len]; omega)) only [runE, mapE, listE, initT_5, initT_6, initT_7, initT_8, resV, oneV, binA, unA, reduceCtorEq, Nat.reduceEqDiff, Nat.reduceAdd, Nat.reduceLT, Nat.reduceLeDiff, Nat.reduceMul, Nat.reduceSub, ↓reduceIte, decide_true, decide_false, Bool.true_eq_false, Bool.false_eq_true, Bool.not_true, Bool.not_false, if_true, if_false, and_true, true_and, memE, celE, w64, Nat.zero_add, Nat.add_zero, Nat.mul_one, putL, and_self, ldn, bsl_no]
    exact no _ hX1 (by simp [strOk, h1])
  | true =>
  have hG := parB_iff.1 h1
  have hlen := hG.len
  simp (config := {implicitDefEqProofs := false, maxDischargeDepth := 20}) (disch := first | omega | (simp only [lenE]; done) | (simp only [lenE]; omega) | rfl | (simp only [lenE, markR_len]; done) | (simp only [lenE, markR_len]; omega)) only [runE, mapE, listE, initT_5, initT_6, initT_7, initT_8, resV, oneV, binA, unA, reduceCtorEq, Nat.reduceEqDiff, Nat.reduceAdd, Nat.reduceLT, Nat.reduceLeDiff, Nat.reduceMul, Nat.reduceSub, ↓reduceIte, decide_true, decide_false, Bool.true_eq_false, Bool.false_eq_true, Bool.not_true, Bool.not_false, if_true, if_false, and_true, true_and, memE, celE, w64, Nat.zero_add, Nat.add_zero, Nat.mul_one, putL, and_self, ldn, b2.mk1']
  refine callH_rc (containsP_rc _ _ _ _ _ (hX1.keeps.pcs h).el (funOther _ _ _ L b2.mk1' (hX1.keeps.pcs h))) ?_
  rintro r n2 ⟨rfl, hn2⟩
  rw [any_other]
  obtain ⟨E2, hE2⟩ : ∃ E2, E2 = E1 ++ n2 := ⟨_, rfl⟩
  have hX2 : Ext m E2 := by rw [hE2]; exact hX1.app hn2
  have b3 : OwnB E2 m.length 66 [.slice (some ⟨gid, 0, none⟩) L.length gfl] := by rw [hE2]; exact b2.ext _
  rw [← hE2]
  clear hE2 b2 hX1
  cases h2 : sameB L with
  | false =>
    simp (config := {implicitDefEqProofs := false, maxDischargeDepth := 20}) (disch := first | omega | (simp only [lenE]; done) | (simp only [lenE]; omega) | rfl | (simp only [lenE, markR_len]; done) | (simp only [lenE, markR_len]; omega)) only [runE, mapE, listE, initT_5, initT_6, initT_7, initT_8, resV, oneV, binA, unA, reduceCtorEq, Nat.reduceEqDiff, Nat.reduceAdd, Nat.reduceLT, Nat.reduceLeDiff, Nat.reduceMul, Nat.reduceSub, ↓reduceIte, decide_true, decide_false, Bool.true_eq_false, Bool.false_eq_true, Bool.not_true, Bool.not_false, if_true, if_false, and_true, true_and, memE, celE, w64, Nat.zero_add, Nat.add_zero, Nat.mul_one, putL, and_self, ldn, bsl_no, Bool.not_false]
    exact no _ hX2 (by simp [strOk, h2])
  | true =>
  have hok : strOk L = true := by simp [strOk, h1, h2]
  have eS : strA L = strTo L L.length := by unfold strA; rw [hok]; rfl
  rw [eS, hok]
  simp (config := {implicitDefEqProofs := false, maxDischargeDepth := 20}) (disch := first | omega | (simp only [lenE]; done) | (simp only [lenE]; omega) | rfl | (simp only [lenE, markR_len]; done) | (simp only [lenE, markR_len]; omega)) only [runE, mapE, listE, initT_5, initT_6, initT_7, initT_8, resV, oneV, binA, unA, reduceCtorEq, Nat.reduceEqDiff, Nat.reduceAdd, Nat.reduceLT, Nat.reduceLeDiff, Nat.reduceMul, Nat.reduceSub, ↓reduceIte, decide_true, decide_false, Bool.true_eq_false, Bool.false_eq_true, Bool.not_true, Bool.not_false, if_true, if_false, and_true, true_and, memE, celE, w64, Nat.zero_add, Nat.add_zero, Nat.mul_one, putL, and_self, ldn, Bool.not_true, b3.mk1']
  refine callH_rc (eachP_rc _ _ _ _ (fun x => (pcOf x).day + (pcOf x).lead) (ones_pc L) (hX2.keeps.pcs h).el (funArr hG) (by rw [List.length_map]; omega)) ?_
  rintro r n3 hA
  obtain ⟨aid, afl, rfl, haid, hao, hal, hn3⟩ := hA.row
  rw [map_arr] at hao hal
  rw [map_arr]
  obtain ⟨E3, hE3⟩ : ∃ E3, E3 = E2 ++ n3 := ⟨_, rfl⟩
  have hX3 : Ext m E3 := by rw [hE3]; exact hX2.app hn3
  have b4 : OwnB E3 m.length 66 [.slice (some ⟨gid, 0, none⟩) L.length gfl] := by rw [hE3]; exact b3.ext _
  have hL2 := hX2.len
  rw [← hE3] at hao ⊢
  clear hE3 b3 hX2
  have hDl := arrD_len L
  simp (config := {implicitDefEqProofs := false, maxDischargeDepth := 20}) (disch := first | omega | (simp only [lenE]; done) | (simp only [lenE]; omega) | rfl | (simp only [lenE, markR_len]; done) | (simp only [lenE, markR_len]; omega)) only [runE, mapE, listE, initT_5, initT_6, initT_7, initT_8, resV, oneV, binA, unA, reduceCtorEq, Nat.reduceEqDiff, Nat.reduceAdd, Nat.reduceLT, Nat.reduceLeDiff, Nat.reduceMul, Nat.reduceSub, ↓reduceIte, decide_true, decide_false, Bool.true_eq_false, Bool.false_eq_true, Bool.not_true, Bool.not_false, if_true, if_false, and_true, true_and, memE, celE, w64, Nat.zero_add, Nat.add_zero, Nat.mul_one, putL, and_self, ldn]
  refine callH_ac (sort_ac E3 aid afl (arrD L) hao (by omega)) ?_
  rintro r E4 rfl
  have hne : aid ≠ m.length := fun e => by
    subst e
    have h5 : E3[m.length]? = some (rowB (arrD L)) := hao
    have h6 : E3[m.length]? = some ⟨.own, 66, [.slice (some ⟨gid, 0, none⟩) L.length gfl]⟩ := b4
    rw [h5] at h6
    simp [rowB] at h6
  have b5 := b4.set_ne hne (rowB (insA (arrD L) (arrD L).length))
  have hao5 : OwnR (E3.set aid (rowB (insA (arrD L) (arrD L).length))) aid (insA (arrD L) (arrD L).length) := hao.set_self
  have hX5 : Ext m (E3.set aid (rowB (insA (arrD L) (arrD L).length))) := hX3.put (by omega) _ _
  obtain ⟨E5, hE5⟩ : ∃ E5, E5 = E3.set aid (rowB (insA (arrD L) (arrD L).length)) := ⟨_, rfl⟩
  rw [← hE5] at b5 hao5 hX5 ⊢
  clear hE5 b4 hao hX3
  rw [hDl] at hao5 ⊢
  have hSl := insA_len (arrD L) L.length
  simp (config := {implicitDefEqProofs := false, maxDischargeDepth := 20}) (disch := first | omega | (simp only [lenE]; done) | (simp only [lenE]; omega) | rfl | (simp only [lenE, markR_len]; done) | (simp only [lenE, markR_len]; omega)) only [runE, mapE, listE, initT_5, initT_6, initT_7, initT_8, resV, oneV, binA, unA, reduceCtorEq, Nat.reduceEqDiff, Nat.reduceAdd, Nat.reduceLT, Nat.reduceLeDiff, Nat.reduceMul, Nat.reduceSub, ↓reduceIte, decide_true, decide_false, Bool.true_eq_false, Bool.false_eq_true, Bool.not_true, Bool.not_false, if_true, if_false, and_true, true_and, memE, celE, w64, Nat.zero_add, Nat.add_zero, Nat.mul_one, putL, and_self, ldn, bsl_no, b5.mk1', hl]
  try simp (config := {implicitDefEqProofs := false, maxDischargeDepth := 20}) (disch := first | omega | (simp only [lenE]; done) | (simp only [lenE]; omega) | rfl | (simp only [lenE, markR_len]; done) | (simp only [lenE, markR_len]; omega)) only [runE, mapE, listE, initT_5, initT_6, initT_7, initT_8, resV, oneV, binA, unA, reduceCtorEq, Nat.reduceEqDiff, Nat.reduceAdd, Nat.reduceLT, Nat.reduceLeDiff, Nat.reduceMul, Nat.reduceSub, ↓reduceIte, decide_true, decide_false, Bool.true_eq_false, Bool.false_eq_true, Bool.not_true, Bool.not_false, if_true, if_false, and_true, true_and, memE, celE, w64, Nat.zero_add, Nat.add_zero, Nat.mul_one, putL, and_self, ldn, (b5.ext _).mk1', hl]
  refine loop_inv mixed (fun s => ∃ (k : Nat) (M : Mem) (id : Nat), k ≤ L.length ∧ s.m = M ∧ Ext m M ∧ m.length ≤ id ∧ OwnB M id 113 (pcsC (strTo L k)) ∧ OwnR M aid (insA (arrD L) L.length) ∧ s.t 5 = .slice (some ⟨aid, 0, none⟩) L.length afl ∧ s.t 6 = .slice (some ⟨id, 0, none⟩) k 3 ∧ s.t 24 = .slice (some ⟨gid, 0, none⟩) L.length gfl ∧ s.t 25 = .int .i64 L.length ∧ s.t 26 = .int .i64 k) (fun s => L.length - (intOf (s.t 26)).toNat)
    ⟨0, _, _, by omega, rfl, hX5.one _ _, hX5.len, OwnB.here rfl, hao5.ext _, rfl, rfl, rfl, rfl, rfl⟩ ?_
  rintro s ⟨k, M, id, hk, tm, hx, hid, ho, ha, t5, t6, t24, t25, t26⟩
  by_cases hlt : k < L.length
  · have hlt' : (k : Int) < L.length := by omega
    have hM := hx.keeps.pcs h
    obtain ⟨p, hpp⟩ : ∃ p, p = L.getD k Pc0 := ⟨_, rfl⟩
    have hgp : GoodP11 p := hpp ▸ hG.all k hlt
    have gd := hgp.day
    have i1 := hM.at_ hlt
    have i2 := hM.ld hlt
    rw [← hpp] at i2
    have q1 := iad0 (id := aid) (n := L.length) (fl := afl) (z := (k : Int)) rfl hlt
    have q2 := (ha.ext [⟨.own, 113, [.int .i64 p.day, .int .i64 p.amount, .int .i64 p.lead]⟩]).rd' (i := k) (by omega)
    have bd := strBd hG hlt
    have hC : strC L k = ⟨p.day, p.amount, (insA (arrD L) L.length).getD k 0 - p.day⟩ := by rw [hpp]; rfl
    have hTl := strTo_len L k
    generalize (insA (arrD L) L.length).getD k 0 = y at *
    have st2 : stA (M ++ [⟨.own, 113, [.int .i64 p.day, .int .i64 p.amount, .int .i64 p.lead]⟩]) M.length 2 [.int .i64 (y - p.day)] = some (M ++ [⟨.own, 113, [.int .i64 p.day, .int .i64 p.amount, .int .i64 (y - p.day)]⟩]) := by
      rw [(OwnB.here rfl).st (by simp) rfl]; simp [putL]
    have happ := app_back (M := M ++ [⟨.own, 113, [.int .i64 p.day, .int .i64 p.amount, .int .i64 (y - p.day)]⟩]) (id2 := M.length + 1) (e := 113) (sz := 3) (byt := 24) (n := k) (ys := [.int .i64 p.day, .int .i64 p.amount, .int .i64 (y - p.day)]) (ho.ext _) (by simp) (by rw [pcsC_len, hTl]) rfl rfl (by omega) (by omega)
    simp (config := {implicitDefEqProofs := false, maxDischargeDepth := 20}) (disch := first | omega | (simp only [lenE]; done) | (simp only [lenE]; omega) | rfl | (simp only [lenE, markR_len]; done) | (simp only [lenE, markR_len]; omega)) only [runE, mapE, listE, initT_5, initT_6, initT_7, initT_8, resV, oneV, binA, unA, reduceCtorEq, Nat.reduceEqDiff, Nat.reduceAdd, Nat.reduceLT, Nat.reduceLeDiff, Nat.reduceMul, Nat.reduceSub, ↓reduceIte, decide_true, decide_false, Bool.true_eq_false, Bool.false_eq_true, Bool.not_true, Bool.not_false, if_true, if_false, and_true, true_and, memE, celE, w64, Nat.zero_add, Nat.add_zero, Nat.mul_one, putL, and_self, ldn, tm, t5, t6, t24, t25, t26, hlt', i1, i2, pcV, stP_agg3p, q1, q2, st2, bsl_pc, happ]
    have hll := hx.len
    refine ⟨⟨k + 1, _, M.length + 1 + 1, by omega, rfl, (((hx.one _ _).dead hid).one _ _).one _ _, by omega, ?_, ?_, rfl, by simp⟩, ?_⟩
    · rw [strTo_s, pcsC_sS, hC]
      exact OwnB.here (by simp)
    · have hne2 : id ≠ aid := fun e => by
        subst e
        have h5 : M[id]? = some (rowB (insA (arrD L) L.length)) := ha
        have h6 : M[id]? = some ⟨.own, 113, pcsC (strTo L k)⟩ := ho
        rw [h5] at h6
        simp [rowB] at h6
      exact (((ha.ext _).set_ne hne2).ext _).ext _
    · simp [intOf]; omega
  · have hlt' : ¬ ((k : Int) < L.length) := by omega
    obtain rfl : k = L.length := by omega
    simp (config := {implicitDefEqProofs := false, maxDischargeDepth := 20}) (disch := first | omega | (simp only [lenE]; done) | (simp only [lenE]; omega) | rfl | (simp only [lenE, markR_len]; done) | (simp only [lenE, markR_len]; omega)) only [runE, mapE, listE, initT_5, initT_6, initT_7, initT_8, resV, oneV, binA, unA, reduceCtorEq, Nat.reduceEqDiff, Nat.reduceAdd, Nat.reduceLT, Nat.reduceLeDiff, Nat.reduceMul, Nat.reduceSub, ↓reduceIte, decide_true, decide_false, Bool.true_eq_false, Bool.false_eq_true, Bool.not_true, Bool.not_false, if_true, if_false, and_true, true_and, memE, celE, w64, Nat.zero_add, Nat.add_zero, Nat.mul_one, putL, and_self, ldn, tm, t5, t6, t24, t25, t26, hlt']
    exact ext_pcs (f := fun v => .tuple #[v, .bool true]) hx ho hid (by rw [strTo_len]) (by rw [strTo_len]; omega)
end Go.Proofs.Ytnkbjliidenldaa.Ab
