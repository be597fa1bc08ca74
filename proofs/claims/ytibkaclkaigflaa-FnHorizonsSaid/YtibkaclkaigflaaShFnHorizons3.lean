/- What the law needs of the texts that it rests on. -/
import Derived.Test.YtibkaclkaigflaaShFnHorizons2
section
namespace Go.Proofs.Ytibkaclkaigflaa.Ab
open Go Go.RowKit
set_option linter.unusedVariables false
set_option linter.unusedSimpArgs false
set_option maxRecDepth 100000
theorem OwnR.ld4r {M : Mem} {id : Nat} {a b c d : Value} (h : M[id]? = some ⟨.own, 26, [a, b, c, d]⟩) : ldA M (some 4) (.pointer (some ⟨id, 0, none⟩)) = some (.agg #[a, b, c, d]) := by
  simp [ldA, rdn, rdc, h, aggO, consO]
structure HorF (k : Cs) (hs ls ts : List Int) : Prop where
  g : Good k
  ll : ls.length = k.need.length
  mem : ∀ t : Nat, t < k.need.length → decide (((t : Int) + 1) ∈ hs) = ((ls.getD t 0 == (t : Int)) && decide (0 < k.need.getD t 0))
  turn : ∀ t : Nat, t < k.need.length → waitsB k = true → ((t : Int) + 1) ∈ hs → (t : Int) ∈ ts
  rise : waitsB k = true → (∀ t, t < k.need.length → 0 < k.need.getD t 0) → ∀ h, h + 1 < k.need.length → ls.getD h 0 ≤ ls.getD (h + 1) 0
  fo : fromOk k (tableA k) = true
  cost : costA k (fromA k (tableA k)) = bestCA k
theorem horF {k : Cs} (hg : k.good = true) : HorF k (horA k) (lastsA k) (turnA k) := by
  have gd := good_iff.1 hg
  obtain ⟨r1, r2, r3⟩ := table_best gd
  have eh : horA k = horP k (fwdL k k.need.length) k.need.length := horA_yes hg
  have el : lastsA k = fwdL k k.need.length := by unfold lastsA; rw [if_pos hg]
  have et : turnA k = turnP k (k.need.length + 1) := turnA_yes hg
  have ea : tableA k = tabP k (fwdL k k.need.length) k.need.length k.need.length := tableA_yes hg
  have fo : fromOk k (tableA k) = true := by rw [ea]; unfold fromOk; rw [hg, r2, risB_iff.2 r1]; rfl
  have pl := fromL_plan gd r1 r2
  have tw : two k (fromL k.need (tabP k (fwdL k k.need.length) k.need.length k.need.length)) = true := by
    refine two_iff.2 ⟨gd, fromL_len _ _, fromL_in gd.need gd.n8 r1, ?_, ?_⟩
    · rw [fromL_len]; exact pl.1
    · rw [fromL_len]; exact pl.2
  refine ⟨gd, by rw [el, fwdL_len], fun t ht => ?_, fun t ht hw hm => ?_, fun hw hp h h1 => ?_, fo, ?_⟩
  · rw [eh, el]
    have := hor_mem k (fwdL k k.need.length) k.need.length t ht
    unfold horAt at this
    cases hb : ((fwdL k k.need.length).getD t 0 == (t : Int)) && decide (0 < k.need.getD t 0) with
    | true => exact decide_eq_true (this.2 hb)
    | false => exact decide_eq_false fun h => by rw [this.1 h] at hb; cases hb
  · rw [eh] at hm
    have hh := (hor_mem k (fwdL k k.need.length) k.need.length t ht).1 hm
    unfold horAt at hh
    rw [Bool.and_eq_true, beq_iff_eq, decide_eq_true_eq, fwdL_at k ht] at hh
    rw [et]
    exact turn_mem k _ t (by omega) (hor_turn gd hw ht (by omega) hh.2)
  · rw [el, fwdL_at k h1, fwdL_at k (by omega)]
    have := lasts_rise gd hw hp h1
    omega
  · rw [fromA_yes fo, ea, costA_yes tw, r3, bestCA_yes hg]
theorem hor_lens (k : Cs) : (horA k).length ≤ 1000 ∧ (lastsA k).length ≤ 1000 ∧ (turnA k).length ≤ 1000 ∧ (tableA k).length ≤ 1000 ∧ (fromA k (tableA k)).length ≤ 1000 := by
  by_cases hg : k.good = true
  · have gd := good_iff.1 hg
    have n8 := gd.n8
    have f := horF hg
    refine ⟨?_, by rw [f.ll]; omega, ?_, ?_, ?_⟩
    · rw [horA_yes hg]; have := horP_len k (fwdL k k.need.length) k.need.length; omega
    · rw [turnA_yes hg]; have := turnP_len k (k.need.length + 1); omega
    · rw [tableA_yes hg]; have := (table_best gd).1.len; omega
    · rw [fromA_yes f.fo, fromL_len]; omega
  · have hb : k.good = false := by simpa using hg
    have e5 : fromOk k (tableA k) = false := by unfold fromOk; rw [hb]; rfl
    rw [horA_no hb, turnA_no hb, tableA_no hb, ← tableA_no hb, fromA_no e5, tableA_no hb]
    unfold lastsA
    rw [if_neg hg]
    simp
def posTo (k : Cs) : Nat → Bool
  | 0 => true
  | t + 1 => posTo k t && decide (0 < k.need.getD t 0)
theorem posTo_s (k : Cs) (t : Nat) : posTo k (t + 1) = (posTo k t && decide (0 < k.need.getD t 0)) := rfl
theorem posTo_all {k : Cs} : ∀ n, posTo k n = true → ∀ t, t < n → 0 < k.need.getD t 0 := by
  intro n
  induction n with
  | zero => intro _ t h; omega
  | succ n ih =>
    intro h t ht
    rw [posTo, Bool.and_eq_true, decide_eq_true_eq] at h
    by_cases e : t = n
    · subst e; exact h.2
    · exact ih h.1 t (by omega)
set_option maxHeartbeats 16000000 in
theorem law_FnHorizons (l : List Int) (hb : ∀ x ∈ l, 0 ≤ x ∧ x ≤ 255) :
    AC Try.prog 3 [.slice (some ⟨0, 0, none⟩) l.length 0] [⟨.ro, 5, l.map (Value.int .u8)⟩] fun r _ => r = .bool true := by
  refine ac_of_run mixed ok_laws_FnHorizons (by simp) (go_start _ _ _ ?_)
  simp (config := {implicitDefEqProofs := false, maxDischargeDepth := 20}) (disch := first | omega | (simp only [lenE]; done) | (simp only [lenE]; omega) | rfl | (simp only [lenE, markR_len]; done) | (simp only [lenE, markR_len]; omega)) only [runE, mapE, listE, initT_5, initT_6, initT_7, initT_8, resV, oneV, binA, unA, reduceCtorEq, Nat.reduceEqDiff, Nat.reduceAdd, Nat.reduceLT, Nat.reduceLeDiff, Nat.reduceMul, Nat.reduceSub, ↓reduceIte, decide_true, decide_false, Bool.true_eq_false, Bool.false_eq_true, Bool.not_true, Bool.not_false, if_true, if_false, and_true, true_and, memE, celE, w64, Nat.zero_add, Nat.add_zero, Nat.mul_one, putL, and_self, ldn, c_laws_FnHorizons, r_laws_FnHorizons]
  refine callH_rc (vBig_rc _ 0 0 l.length) ?_
  rintro r new ⟨rfl, rfl⟩
  by_cases hbig : 65536 < l.length
  · simp (config := {implicitDefEqProofs := false, maxDischargeDepth := 20}) (disch := first | omega | (simp only [lenE]; done) | (simp only [lenE]; omega) | rfl | (simp only [lenE, markR_len]; done) | (simp only [lenE, markR_len]; omega)) only [runE, mapE, listE, initT_5, initT_6, initT_7, initT_8, resV, oneV, binA, unA, reduceCtorEq, Nat.reduceEqDiff, Nat.reduceAdd, Nat.reduceLT, Nat.reduceLeDiff, Nat.reduceMul, Nat.reduceSub, ↓reduceIte, decide_true, decide_false, Bool.true_eq_false, Bool.false_eq_true, Bool.not_true, Bool.not_false, if_true, if_false, and_true, true_and, memE, celE, w64, Nat.zero_add, Nat.add_zero, Nat.mul_one, putL, and_self, ldn, decide_eq_true hbig]
  have B : BytesA [⟨.ro, 5, l.map (Value.int .u8)⟩] 0 l := ⟨⟨.ro, by simp, rfl⟩, hb, by omega⟩
  obtain ⟨M, hM0⟩ : ∃ M : Mem, M = [⟨.ro, 5, l.map (Value.int .u8)⟩] := ⟨_, rfl⟩
  rw [← hM0] at B
  rw [List.append_nil, ← hM0]
  clear hM0
  simp (config := {implicitDefEqProofs := false, maxDischargeDepth := 20}) (disch := first | omega | (simp only [lenE]; done) | (simp only [lenE]; omega) | rfl | (simp only [lenE, markR_len]; done) | (simp only [lenE, markR_len]; omega)) only [runE, mapE, listE, initT_5, initT_6, initT_7, initT_8, resV, oneV, binA, unA, reduceCtorEq, Nat.reduceEqDiff, Nat.reduceAdd, Nat.reduceLT, Nat.reduceLeDiff, Nat.reduceMul, Nat.reduceSub, ↓reduceIte, decide_true, decide_false, Bool.true_eq_false, Bool.false_eq_true, Bool.not_true, Bool.not_false, if_true, if_false, and_true, true_and, memE, celE, w64, Nat.zero_add, Nat.add_zero, Nat.mul_one, putL, and_self, ldn, decide_eq_false hbig]
  refine callH_rc (DrawHorizonsOf_rc _ 0 0 l B) ?_
  rintro r new ⟨nr, c1, c2, c3, c4, c, rfl, hlv⟩
  have hc := hlv.here
  obtain ⟨w1, w2, w3, w4, ew, j1, j2, j3, j4⟩ := hc.ok
  cases ew
  have oc : onesB [c1, c2, c3, c4] = true := by simp [onesB, j1.one, j2.one, j3.one, j4.one]
  clear j1 j2 j3 j4 B hlv
  obtain ⟨N1, hN⟩ : ∃ N, N = M ++ new := ⟨_, rfl⟩
  rw [← hN] at hc ⊢
  clear hN nr
  have D1 := horF (k := c)
  obtain ⟨D2, D3, D4, D5, D6⟩ := hor_lens c
  obtain ⟨hs, hhs⟩ : ∃ t, t = horA c := ⟨_, rfl⟩
  obtain ⟨ls, hls⟩ : ∃ t, t = lastsA c := ⟨_, rfl⟩
  obtain ⟨ts, hts⟩ : ∃ t, t = turnA c := ⟨_, rfl⟩
  obtain ⟨pa, hpa⟩ : ∃ t, t = tableA c := ⟨_, rfl⟩
  obtain ⟨pl, hpl⟩ : ∃ t, t = fromA c pa := ⟨_, rfl⟩
  rw [← hhs] at D1 D2
  rw [← hls] at D1 D3
  rw [← hts] at D1 D4
  rw [← hpa] at D5 D6
  rw [← hpl] at D6
  have C1 : ∀ M, CaseA M (.agg #[c1, c2, c3, c4]) c → RC Try.prog 6 [.agg #[c1, c2, c3, c4]] M (AnsL M hs c.good) := fun M h => by rw [hhs]; exact implHor_rc M _ c h
  have C2 : ∀ M, CaseA M (.agg #[c1, c2, c3, c4]) c → RC Try.prog 7 [.agg #[c1, c2, c3, c4]] M (AnsL M hs c.good) := fun M h => by rw [hhs]; exact specHor_rc M _ c h
  have C3 : ∀ M, CaseA M (.agg #[c1, c2, c3, c4]) c → RC Try.prog 8 [.agg #[c1, c2, c3, c4]] M (AnsL M ls c.good) := fun M h => by rw [hls]; exact implLasts_rc M _ c h
  have C4 : ∀ M, CaseA M (.agg #[c1, c2, c3, c4]) c → RC Try.prog 9 [.agg #[c1, c2, c3, c4]] M (AnsL M ls c.good) := fun M h => by rw [hls]; exact specLasts_rc M _ c h
  have C5 : ∀ M, CaseA M (.agg #[c1, c2, c3, c4]) c → RC Try.prog 10 [.agg #[c1, c2, c3, c4]] M (AnsL M pa c.good) := fun M h => by rw [hpa]; exact implPeriods_rc M _ c h
  have C6 : ∀ M, CaseA M (.agg #[c1, c2, c3, c4]) c → RC Try.prog 11 [.agg #[c1, c2, c3, c4]] M (AnsL M pa c.good) := fun M h => by rw [hpa]; exact specPeriods_rc M _ c h
  have C7 : ∀ M, CaseA M (.agg #[c1, c2, c3, c4]) c → RC Try.prog 17 [.agg #[c1, c2, c3, c4]] M (AnsL M ts c.good) := fun M h => by rw [hts]; exact implTurn_rc M _ c h
  have G1 : ∀ M (u : Value), CaseA M (.agg #[c1, c2, c3, c4]) c → IntsA M u pa → RC Try.prog 13 [.agg #[c1, c2, c3, c4], u] M (AnsL M pl (fromOk c pa)) := fun M u h hu => by rw [hpl]; exact implPlanFrom_rc M _ u c pa h hu (by omega)
  try simp (config := {implicitDefEqProofs := false, maxDischargeDepth := 20}) (disch := first | omega | (simp only [lenE]; done) | (simp only [lenE]; omega) | rfl | (simp only [lenE, markR_len]; done) | (simp only [lenE, markR_len]; omega)) only [runE, mapE, listE, initT_5, initT_6, initT_7, initT_8, resV, oneV, binA, unA, reduceCtorEq, Nat.reduceEqDiff, Nat.reduceAdd, Nat.reduceLT, Nat.reduceLeDiff, Nat.reduceMul, Nat.reduceSub, ↓reduceIte, decide_true, decide_false, Bool.true_eq_false, Bool.false_eq_true, Bool.not_true, Bool.not_false, if_true, if_false, and_true, true_and, memE, celE, w64, Nat.zero_add, Nat.add_zero, Nat.mul_one, putL, and_self, ldn, Bool.and_self, Bool.and_true, Bool.true_and, Bool.and_false, Bool.false_and, Bool.or_false, Bool.false_or, ext_2_0, ext_2_1, bne_self_eq_false, beq_self_eq_true, goG_undef, Bool.not_true, Bool.not_false, stP_aggL, oc]
  have b3 : (N1 ++ [(⟨.own, 26, [c1, c2, c3, c4]⟩ : Blk)])[N1.length]? = some ⟨.own, 26, [c1, c2, c3, c4]⟩ := by simp
  have hc := hc.ext [⟨.own, 26, [c1, c2, c3, c4]⟩]
  obtain ⟨pb3, hpb⟩ : ∃ t, t = N1.length := ⟨_, rfl⟩
  obtain ⟨N2, hN⟩ : ∃ N, N = N1 ++ [(⟨.own, 26, [c1, c2, c3, c4]⟩ : Blk)] := ⟨_, rfl⟩
  rw [← hN, ← hpb] at b3
  rw [← hN] at hc
  rw [← hN, ← hpb]
  clear hN hpb
  have b3r : ∀ j, rdc N2 pb3 j = ([c1, c2, c3, c4] : List Value)[j]? := fun j => by unfold rdc; rw [b3]; rfl
  try simp (config := {implicitDefEqProofs := false, maxDischargeDepth := 20}) (disch := first | omega | (simp only [lenE]; done) | (simp only [lenE]; omega) | rfl | (simp only [lenE, markR_len]; done) | (simp only [lenE, markR_len]; omega)) only [runE, mapE, listE, initT_5, initT_6, initT_7, initT_8, resV, oneV, binA, unA, reduceCtorEq, Nat.reduceEqDiff, Nat.reduceAdd, Nat.reduceLT, Nat.reduceLeDiff, Nat.reduceMul, Nat.reduceSub, ↓reduceIte, decide_true, decide_false, Bool.true_eq_false, Bool.false_eq_true, Bool.not_true, Bool.not_false, if_true, if_false, and_true, true_and, memE, celE, w64, Nat.zero_add, Nat.add_zero, Nat.mul_one, putL, and_self, ldn, Bool.and_self, Bool.and_true, Bool.true_and, Bool.and_false, Bool.false_and, Bool.or_false, Bool.false_or, ext_2_0, ext_2_1, bne_self_eq_false, beq_self_eq_true, goG_undef, Bool.not_true, Bool.not_false, stP_aggL, OwnR.ld4r b3, b3r]
  try clear b3r
  refine callH_rc (C1 _ hc) ?_
  rintro r new ⟨nr, -, iR1, fR1, rfl, hrow⟩
  have hc := hc.ext new
  have b3 : (N2 ++ new)[pb3]? = some ⟨.own, 26, [c1, c2, c3, c4]⟩ := by rw [List.getElem?_append_left (List.getElem?_eq_some_iff.1 b3).1]; exact b3
  have R1 := (OwnR.new hrow rfl : OwnR (N2 ++ new) (N2.length + iR1) hs)
  obtain ⟨N3, hN⟩ : ∃ N, N = N2 ++ new := ⟨_, rfl⟩
  rw [← hN] at hc R1 b3 ⊢
  clear hN
  obtain ⟨dR1, hd⟩ : ∃ t, t = N2.length + iR1 := ⟨_, rfl⟩
  rw [← hd] at R1 ⊢
  clear hd nr hrow
  have b3r : ∀ j, rdc N3 pb3 j = ([c1, c2, c3, c4] : List Value)[j]? := fun j => by unfold rdc; rw [b3]; rfl
  try simp (config := {implicitDefEqProofs := false, maxDischargeDepth := 20}) (disch := first | omega | (simp only [lenE]; done) | (simp only [lenE]; omega) | rfl | (simp only [lenE, markR_len]; done) | (simp only [lenE, markR_len]; omega)) only [runE, mapE, listE, initT_5, initT_6, initT_7, initT_8, resV, oneV, binA, unA, reduceCtorEq, Nat.reduceEqDiff, Nat.reduceAdd, Nat.reduceLT, Nat.reduceLeDiff, Nat.reduceMul, Nat.reduceSub, ↓reduceIte, decide_true, decide_false, Bool.true_eq_false, Bool.false_eq_true, Bool.not_true, Bool.not_false, if_true, if_false, and_true, true_and, memE, celE, w64, Nat.zero_add, Nat.add_zero, Nat.mul_one, putL, and_self, ldn, Bool.and_self, Bool.and_true, Bool.true_and, Bool.and_false, Bool.false_and, Bool.or_false, Bool.false_or, ext_2_0, ext_2_1, bne_self_eq_false, beq_self_eq_true, goG_undef, Bool.not_true, Bool.not_false, stP_aggL, OwnR.ld4r b3, b3r]
  try clear b3r
  refine callH_rc (C2 _ hc) ?_
  rintro r new ⟨nr, -, iR2, fR2, rfl, hrow⟩
  have hc := hc.ext new
  have R1 := R1.ext new
  have b3 : (N3 ++ new)[pb3]? = some ⟨.own, 26, [c1, c2, c3, c4]⟩ := by rw [List.getElem?_append_left (List.getElem?_eq_some_iff.1 b3).1]; exact b3
  have R2 := (OwnR.new hrow rfl : OwnR (N3 ++ new) (N3.length + iR2) hs)
  obtain ⟨N4, hN⟩ : ∃ N, N = N3 ++ new := ⟨_, rfl⟩
  rw [← hN] at hc R1 R2 b3 ⊢
  clear hN
  obtain ⟨dR2, hd⟩ : ∃ t, t = N3.length + iR2 := ⟨_, rfl⟩
  rw [← hd] at R2 ⊢
  clear hd nr hrow
  have b3r : ∀ j, rdc N4 pb3 j = ([c1, c2, c3, c4] : List Value)[j]? := fun j => by unfold rdc; rw [b3]; rfl
  try simp (config := {implicitDefEqProofs := false, maxDischargeDepth := 20}) (disch := first | omega | (simp only [lenE]; done) | (simp only [lenE]; omega) | rfl | (simp only [lenE, markR_len]; done) | (simp only [lenE, markR_len]; omega)) only [runE, mapE, listE, initT_5, initT_6, initT_7, initT_8, resV, oneV, binA, unA, reduceCtorEq, Nat.reduceEqDiff, Nat.reduceAdd, Nat.reduceLT, Nat.reduceLeDiff, Nat.reduceMul, Nat.reduceSub, ↓reduceIte, decide_true, decide_false, Bool.true_eq_false, Bool.false_eq_true, Bool.not_true, Bool.not_false, if_true, if_false, and_true, true_and, memE, celE, w64, Nat.zero_add, Nat.add_zero, Nat.mul_one, putL, and_self, ldn, Bool.and_self, Bool.and_true, Bool.true_and, Bool.and_false, Bool.false_and, Bool.or_false, Bool.false_or, ext_2_0, ext_2_1, bne_self_eq_false, beq_self_eq_true, goG_undef, Bool.not_true, Bool.not_false, stP_aggL, OwnR.ld4r b3, b3r]
  try clear b3r
  refine callH_rc (C3 _ hc) ?_
  rintro r new ⟨nr, -, iR3, fR3, rfl, hrow⟩
  have hc := hc.ext new
  have R1 := R1.ext new
  have R2 := R2.ext new
  have b3 : (N4 ++ new)[pb3]? = some ⟨.own, 26, [c1, c2, c3, c4]⟩ := by rw [List.getElem?_append_left (List.getElem?_eq_some_iff.1 b3).1]; exact b3
  have R3 := (OwnR.new hrow rfl : OwnR (N4 ++ new) (N4.length + iR3) ls)
  obtain ⟨N5, hN⟩ : ∃ N, N = N4 ++ new := ⟨_, rfl⟩
  rw [← hN] at hc R1 R2 R3 b3 ⊢
  clear hN
  obtain ⟨dR3, hd⟩ : ∃ t, t = N4.length + iR3 := ⟨_, rfl⟩
  rw [← hd] at R3 ⊢
  clear hd nr hrow
  have b3r : ∀ j, rdc N5 pb3 j = ([c1, c2, c3, c4] : List Value)[j]? := fun j => by unfold rdc; rw [b3]; rfl
  try simp (config := {implicitDefEqProofs := false, maxDischargeDepth := 20}) (disch := first | omega | (simp only [lenE]; done) | (simp only [lenE]; omega) | rfl | (simp only [lenE, markR_len]; done) | (simp only [lenE, markR_len]; omega)) only [runE, mapE, listE, initT_5, initT_6, initT_7, initT_8, resV, oneV, binA, unA, reduceCtorEq, Nat.reduceEqDiff, Nat.reduceAdd, Nat.reduceLT, Nat.reduceLeDiff, Nat.reduceMul, Nat.reduceSub, ↓reduceIte, decide_true, decide_false, Bool.true_eq_false, Bool.false_eq_true, Bool.not_true, Bool.not_false, if_true, if_false, and_true, true_and, memE, celE, w64, Nat.zero_add, Nat.add_zero, Nat.mul_one, putL, and_self, ldn, Bool.and_self, Bool.and_true, Bool.true_and, Bool.and_false, Bool.false_and, Bool.or_false, Bool.false_or, ext_2_0, ext_2_1, bne_self_eq_false, beq_self_eq_true, goG_undef, Bool.not_true, Bool.not_false, stP_aggL, OwnR.ld4r b3, b3r]
  try clear b3r
  refine callH_rc (C4 _ hc) ?_
  rintro r new ⟨nr, -, iR4, fR4, rfl, hrow⟩
  have hc := hc.ext new
  have R1 := R1.ext new
  have R2 := R2.ext new
  have R3 := R3.ext new
  have b3 : (N5 ++ new)[pb3]? = some ⟨.own, 26, [c1, c2, c3, c4]⟩ := by rw [List.getElem?_append_left (List.getElem?_eq_some_iff.1 b3).1]; exact b3
  have R4 := (OwnR.new hrow rfl : OwnR (N5 ++ new) (N5.length + iR4) ls)
  obtain ⟨N6, hN⟩ : ∃ N, N = N5 ++ new := ⟨_, rfl⟩
  rw [← hN] at hc R1 R2 R3 R4 b3 ⊢
  clear hN
  obtain ⟨dR4, hd⟩ : ∃ t, t = N5.length + iR4 := ⟨_, rfl⟩
  rw [← hd] at R4 ⊢
  clear hd nr hrow
  have b3r : ∀ j, rdc N6 pb3 j = ([c1, c2, c3, c4] : List Value)[j]? := fun j => by unfold rdc; rw [b3]; rfl
  try simp (config := {implicitDefEqProofs := false, maxDischargeDepth := 20}) (disch := first | omega | (simp only [lenE]; done) | (simp only [lenE]; omega) | rfl | (simp only [lenE, markR_len]; done) | (simp only [lenE, markR_len]; omega)) only [runE, mapE, listE, initT_5, initT_6, initT_7, initT_8, resV, oneV, binA, unA, reduceCtorEq, Nat.reduceEqDiff, Nat.reduceAdd, Nat.reduceLT, Nat.reduceLeDiff, Nat.reduceMul, Nat.reduceSub, ↓reduceIte, decide_true, decide_false, Bool.true_eq_false, Bool.false_eq_true, Bool.not_true, Bool.not_false, if_true, if_false, and_true, true_and, memE, celE, w64, Nat.zero_add, Nat.add_zero, Nat.mul_one, putL, and_self, ldn, Bool.and_self, Bool.and_true, Bool.true_and, Bool.and_false, Bool.false_and, Bool.or_false, Bool.false_or, ext_2_0, ext_2_1, bne_self_eq_false, beq_self_eq_true, goG_undef, Bool.not_true, Bool.not_false, stP_aggL, OwnR.ld4r b3, b3r]
  try clear b3r
  refine callH_rc (C5 _ hc) ?_
  rintro r new ⟨nr, -, iR5, fR5, rfl, hrow⟩
  have hc := hc.ext new
  have R1 := R1.ext new
  have R2 := R2.ext new
  have R3 := R3.ext new
  have R4 := R4.ext new
  have b3 : (N6 ++ new)[pb3]? = some ⟨.own, 26, [c1, c2, c3, c4]⟩ := by rw [List.getElem?_append_left (List.getElem?_eq_some_iff.1 b3).1]; exact b3
  have R5 := (OwnR.new hrow rfl : OwnR (N6 ++ new) (N6.length + iR5) pa)
  obtain ⟨N7, hN⟩ : ∃ N, N = N6 ++ new := ⟨_, rfl⟩
  rw [← hN] at hc R1 R2 R3 R4 R5 b3 ⊢
  clear hN
  obtain ⟨dR5, hd⟩ : ∃ t, t = N6.length + iR5 := ⟨_, rfl⟩
  rw [← hd] at R5 ⊢
  clear hd nr hrow
  have b3r : ∀ j, rdc N7 pb3 j = ([c1, c2, c3, c4] : List Value)[j]? := fun j => by unfold rdc; rw [b3]; rfl
  try simp (config := {implicitDefEqProofs := false, maxDischargeDepth := 20}) (disch := first | omega | (simp only [lenE]; done) | (simp only [lenE]; omega) | rfl | (simp only [lenE, markR_len]; done) | (simp only [lenE, markR_len]; omega)) only [runE, mapE, listE, initT_5, initT_6, initT_7, initT_8, resV, oneV, binA, unA, reduceCtorEq, Nat.reduceEqDiff, Nat.reduceAdd, Nat.reduceLT, Nat.reduceLeDiff, Nat.reduceMul, Nat.reduceSub, ↓reduceIte, decide_true, decide_false, Bool.true_eq_false, Bool.false_eq_true, Bool.not_true, Bool.not_false, if_true, if_false, and_true, true_and, memE, celE, w64, Nat.zero_add, Nat.add_zero, Nat.mul_one, putL, and_self, ldn, Bool.and_self, Bool.and_true, Bool.true_and, Bool.and_false, Bool.false_and, Bool.or_false, Bool.false_or, ext_2_0, ext_2_1, bne_self_eq_false, beq_self_eq_true, goG_undef, Bool.not_true, Bool.not_false, stP_aggL, OwnR.ld4r b3, b3r]
  try clear b3r
  refine callH_rc (C6 _ hc) ?_
  rintro r new ⟨nr, -, iR6, fR6, rfl, hrow⟩
  have hc := hc.ext new
  have R1 := R1.ext new
  have R2 := R2.ext new
  have R3 := R3.ext new
  have R4 := R4.ext new
  have R5 := R5.ext new
  have b3 : (N7 ++ new)[pb3]? = some ⟨.own, 26, [c1, c2, c3, c4]⟩ := by rw [List.getElem?_append_left (List.getElem?_eq_some_iff.1 b3).1]; exact b3
  have R6 := (OwnR.new hrow rfl : OwnR (N7 ++ new) (N7.length + iR6) pa)
  obtain ⟨N8, hN⟩ : ∃ N, N = N7 ++ new := ⟨_, rfl⟩
  rw [← hN] at hc R1 R2 R3 R4 R5 R6 b3 ⊢
  clear hN
  obtain ⟨dR6, hd⟩ : ∃ t, t = N7.length + iR6 := ⟨_, rfl⟩
  rw [← hd] at R6 ⊢
  clear hd nr hrow
  have b3r : ∀ j, rdc N8 pb3 j = ([c1, c2, c3, c4] : List Value)[j]? := fun j => by unfold rdc; rw [b3]; rfl
  try simp (config := {implicitDefEqProofs := false, maxDischargeDepth := 20}) (disch := first | omega | (simp only [lenE]; done) | (simp only [lenE]; omega) | rfl | (simp only [lenE, markR_len]; done) | (simp only [lenE, markR_len]; omega)) only [runE, mapE, listE, initT_5, initT_6, initT_7, initT_8, resV, oneV, binA, unA, reduceCtorEq, Nat.reduceEqDiff, Nat.reduceAdd, Nat.reduceLT, Nat.reduceLeDiff, Nat.reduceMul, Nat.reduceSub, ↓reduceIte, decide_true, decide_false, Bool.true_eq_false, Bool.false_eq_true, Bool.not_true, Bool.not_false, if_true, if_false, and_true, true_and, memE, celE, w64, Nat.zero_add, Nat.add_zero, Nat.mul_one, putL, and_self, ldn, Bool.and_self, Bool.and_true, Bool.true_and, Bool.and_false, Bool.false_and, Bool.or_false, Bool.false_or, ext_2_0, ext_2_1, bne_self_eq_false, beq_self_eq_true, goG_undef, Bool.not_true, Bool.not_false, stP_aggL, OwnR.ld4r b3, b3r]
  try clear b3r
  first
    | refine callH_rc (vInts_rc _ _ _ hs (R1.ints (by omega) fR1) (R2.ints (by omega) fR2)) ?_
    | refine rcallH_rc (vInts_rc _ _ _ hs (R1.ints (by omega) fR1) (R2.ints (by omega) fR2)) ?_
  rintro r new ⟨rfl, rfl⟩
  rw [List.append_nil]
  have b3r : ∀ j, rdc N8 pb3 j = ([c1, c2, c3, c4] : List Value)[j]? := fun j => by unfold rdc; rw [b3]; rfl
  try simp (config := {implicitDefEqProofs := false, maxDischargeDepth := 20}) (disch := first | omega | (simp only [lenE]; done) | (simp only [lenE]; omega) | rfl | (simp only [lenE, markR_len]; done) | (simp only [lenE, markR_len]; omega)) only [runE, mapE, listE, initT_5, initT_6, initT_7, initT_8, resV, oneV, binA, unA, reduceCtorEq, Nat.reduceEqDiff, Nat.reduceAdd, Nat.reduceLT, Nat.reduceLeDiff, Nat.reduceMul, Nat.reduceSub, ↓reduceIte, decide_true, decide_false, Bool.true_eq_false, Bool.false_eq_true, Bool.not_true, Bool.not_false, if_true, if_false, and_true, true_and, memE, celE, w64, Nat.zero_add, Nat.add_zero, Nat.mul_one, putL, and_self, ldn, Bool.and_self, Bool.and_true, Bool.true_and, Bool.and_false, Bool.false_and, Bool.or_false, Bool.false_or, ext_2_0, ext_2_1, bne_self_eq_false, beq_self_eq_true, goG_undef, Bool.not_true, Bool.not_false, stP_aggL, OwnR.ld4r b3, b3r]
  try clear b3r
  first
    | refine callH_rc (vInts_rc _ _ _ ls (R3.ints (by omega) fR3) (R4.ints (by omega) fR4)) ?_
    | refine rcallH_rc (vInts_rc _ _ _ ls (R3.ints (by omega) fR3) (R4.ints (by omega) fR4)) ?_
  rintro r new ⟨rfl, rfl⟩
  rw [List.append_nil]
  have b3r : ∀ j, rdc N8 pb3 j = ([c1, c2, c3, c4] : List Value)[j]? := fun j => by unfold rdc; rw [b3]; rfl
  try simp (config := {implicitDefEqProofs := false, maxDischargeDepth := 20}) (disch := first | omega | (simp only [lenE]; done) | (simp only [lenE]; omega) | rfl | (simp only [lenE, markR_len]; done) | (simp only [lenE, markR_len]; omega)) only [runE, mapE, listE, initT_5, initT_6, initT_7, initT_8, resV, oneV, binA, unA, reduceCtorEq, Nat.reduceEqDiff, Nat.reduceAdd, Nat.reduceLT, Nat.reduceLeDiff, Nat.reduceMul, Nat.reduceSub, ↓reduceIte, decide_true, decide_false, Bool.true_eq_false, Bool.false_eq_true, Bool.not_true, Bool.not_false, if_true, if_false, and_true, true_and, memE, celE, w64, Nat.zero_add, Nat.add_zero, Nat.mul_one, putL, and_self, ldn, Bool.and_self, Bool.and_true, Bool.true_and, Bool.and_false, Bool.false_and, Bool.or_false, Bool.false_or, ext_2_0, ext_2_1, bne_self_eq_false, beq_self_eq_true, goG_undef, Bool.not_true, Bool.not_false, stP_aggL, OwnR.ld4r b3, b3r]
  try clear b3r
  first
    | refine callH_rc (vInts_rc _ _ _ pa (R5.ints (by omega) fR5) (R6.ints (by omega) fR6)) ?_
    | refine rcallH_rc (vInts_rc _ _ _ pa (R5.ints (by omega) fR5) (R6.ints (by omega) fR6)) ?_
  rintro r new ⟨rfl, rfl⟩
  rw [List.append_nil]
  clear R2 R4 R6
  cases hg : c.good with
  | false =>
    have b3r : ∀ j, rdc N8 pb3 j = ([c1, c2, c3, c4] : List Value)[j]? := fun j => by unfold rdc; rw [b3]; rfl
    try simp (config := {implicitDefEqProofs := false, maxDischargeDepth := 20}) (disch := first | omega | (simp only [lenE]; done) | (simp only [lenE]; omega) | rfl | (simp only [lenE, markR_len]; done) | (simp only [lenE, markR_len]; omega)) only [runE, mapE, listE, initT_5, initT_6, initT_7, initT_8, resV, oneV, binA, unA, reduceCtorEq, Nat.reduceEqDiff, Nat.reduceAdd, Nat.reduceLT, Nat.reduceLeDiff, Nat.reduceMul, Nat.reduceSub, ↓reduceIte, decide_true, decide_false, Bool.true_eq_false, Bool.false_eq_true, Bool.not_true, Bool.not_false, if_true, if_false, and_true, true_and, memE, celE, w64, Nat.zero_add, Nat.add_zero, Nat.mul_one, putL, and_self, ldn, Bool.and_self, Bool.and_true, Bool.true_and, Bool.and_false, Bool.false_and, Bool.or_false, Bool.false_or, ext_2_0, ext_2_1, bne_self_eq_false, beq_self_eq_true, goG_undef, Bool.not_true, Bool.not_false, stP_aggL, OwnR.ld4r b3, b3r, hg]
    try clear b3r
  | true =>
    have f := D1 hg
    have f4 := f.fo
    have f5 := f.cost
    rw [← hpa] at f4 f5
    rw [← hpl] at f5
    clear hpa hpl hhs hls hts
    have b3r : ∀ j, rdc N8 pb3 j = ([c1, c2, c3, c4] : List Value)[j]? := fun j => by unfold rdc; rw [b3]; rfl
    try simp (config := {implicitDefEqProofs := false, maxDischargeDepth := 20}) (disch := first | omega | (simp only [lenE]; done) | (simp only [lenE]; omega) | rfl | (simp only [lenE, markR_len]; done) | (simp only [lenE, markR_len]; omega)) only [runE, mapE, listE, initT_5, initT_6, initT_7, initT_8, resV, oneV, binA, unA, reduceCtorEq, Nat.reduceEqDiff, Nat.reduceAdd, Nat.reduceLT, Nat.reduceLeDiff, Nat.reduceMul, Nat.reduceSub, ↓reduceIte, decide_true, decide_false, Bool.true_eq_false, Bool.false_eq_true, Bool.not_true, Bool.not_false, if_true, if_false, and_true, true_and, memE, celE, w64, Nat.zero_add, Nat.add_zero, Nat.mul_one, putL, and_self, ldn, Bool.and_self, Bool.and_true, Bool.true_and, Bool.and_false, Bool.false_and, Bool.or_false, Bool.false_or, ext_2_0, ext_2_1, bne_self_eq_false, beq_self_eq_true, goG_undef, Bool.not_true, Bool.not_false, stP_aggL, OwnR.ld4r b3, b3r, hg]
    try clear b3r
    refine callH_rc (G1 _ _ hc (R5.ints (by omega) fR5)) ?_
    rintro r new ⟨nr, -, iR7, fR7, rfl, hrow⟩
    have hc := hc.ext new
    have R1 := R1.ext new
    have R3 := R3.ext new
    have R5 := R5.ext new
    have b3 : (N8 ++ new)[pb3]? = some ⟨.own, 26, [c1, c2, c3, c4]⟩ := by rw [List.getElem?_append_left (List.getElem?_eq_some_iff.1 b3).1]; exact b3
    have R7 := (OwnR.new hrow rfl : OwnR (N8 ++ new) (N8.length + iR7) pl)
    obtain ⟨N9, hN⟩ : ∃ N, N = N8 ++ new := ⟨_, rfl⟩
    rw [← hN] at hc R1 R3 R5 R7 b3 ⊢
    clear hN
    obtain ⟨dR7, hd⟩ : ∃ t, t = N8.length + iR7 := ⟨_, rfl⟩
    rw [← hd] at R7 ⊢
    clear hd nr hrow
    have b3r : ∀ j, rdc N9 pb3 j = ([c1, c2, c3, c4] : List Value)[j]? := fun j => by unfold rdc; rw [b3]; rfl
    try simp (config := {implicitDefEqProofs := false, maxDischargeDepth := 20}) (disch := first | omega | (simp only [lenE]; done) | (simp only [lenE]; omega) | rfl | (simp only [lenE, markR_len]; done) | (simp only [lenE, markR_len]; omega)) only [runE, mapE, listE, initT_5, initT_6, initT_7, initT_8, resV, oneV, binA, unA, reduceCtorEq, Nat.reduceEqDiff, Nat.reduceAdd, Nat.reduceLT, Nat.reduceLeDiff, Nat.reduceMul, Nat.reduceSub, ↓reduceIte, decide_true, decide_false, Bool.true_eq_false, Bool.false_eq_true, Bool.not_true, Bool.not_false, if_true, if_false, and_true, true_and, memE, celE, w64, Nat.zero_add, Nat.add_zero, Nat.mul_one, putL, and_self, ldn, Bool.and_self, Bool.and_true, Bool.true_and, Bool.and_false, Bool.false_and, Bool.or_false, Bool.false_or, ext_2_0, ext_2_1, bne_self_eq_false, beq_self_eq_true, goG_undef, Bool.not_true, Bool.not_false, stP_aggL, OwnR.ld4r b3, b3r, hg, f4]
    try clear b3r
    refine callH_rc (implPlanCost_rc _ _ _ c pl hc (R7.ints (by omega) fR7)) ?_
    rintro r new ⟨rfl, nr⟩
    have hc := hc.ext new
    have R1 := R1.ext new
    have R3 := R3.ext new
    have R5 := R5.ext new
    have R7 := R7.ext new
    have b3 : (N9 ++ new)[pb3]? = some ⟨.own, 26, [c1, c2, c3, c4]⟩ := by rw [List.getElem?_append_left (List.getElem?_eq_some_iff.1 b3).1]; exact b3
    obtain ⟨N10, hN⟩ : ∃ N, N = N9 ++ new := ⟨_, rfl⟩
    rw [← hN] at hc R1 R3 R5 R7 b3 ⊢
    clear hN
    clear nr
    have b3r : ∀ j, rdc N10 pb3 j = ([c1, c2, c3, c4] : List Value)[j]? := fun j => by unfold rdc; rw [b3]; rfl
    try simp (config := {implicitDefEqProofs := false, maxDischargeDepth := 20}) (disch := first | omega | (simp only [lenE]; done) | (simp only [lenE]; omega) | rfl | (simp only [lenE, markR_len]; done) | (simp only [lenE, markR_len]; omega)) only [runE, mapE, listE, initT_5, initT_6, initT_7, initT_8, resV, oneV, binA, unA, reduceCtorEq, Nat.reduceEqDiff, Nat.reduceAdd, Nat.reduceLT, Nat.reduceLeDiff, Nat.reduceMul, Nat.reduceSub, ↓reduceIte, decide_true, decide_false, Bool.true_eq_false, Bool.false_eq_true, Bool.not_true, Bool.not_false, if_true, if_false, and_true, true_and, memE, celE, w64, Nat.zero_add, Nat.add_zero, Nat.mul_one, putL, and_self, ldn, Bool.and_self, Bool.and_true, Bool.true_and, Bool.and_false, Bool.false_and, Bool.or_false, Bool.false_or, ext_2_0, ext_2_1, bne_self_eq_false, beq_self_eq_true, goG_undef, Bool.not_true, Bool.not_false, stP_aggL, OwnR.ld4r b3, b3r, hg, f4]
    try clear b3r
    refine callH_rc (implBestCost_rc _ _ c hc) ?_
    rintro r new ⟨rfl, nr⟩
    have hc := hc.ext new
    have R1 := R1.ext new
    have R3 := R3.ext new
    have R5 := R5.ext new
    have R7 := R7.ext new
    have b3 : (N10 ++ new)[pb3]? = some ⟨.own, 26, [c1, c2, c3, c4]⟩ := by rw [List.getElem?_append_left (List.getElem?_eq_some_iff.1 b3).1]; exact b3
    obtain ⟨N11, hN⟩ : ∃ N, N = N10 ++ new := ⟨_, rfl⟩
    rw [← hN] at hc R1 R3 R5 R7 b3 ⊢
    clear hN
    clear nr
    have b3r : ∀ j, rdc N11 pb3 j = ([c1, c2, c3, c4] : List Value)[j]? := fun j => by unfold rdc; rw [b3]; rfl
    try simp (config := {implicitDefEqProofs := false, maxDischargeDepth := 20}) (disch := first | omega | (simp only [lenE]; done) | (simp only [lenE]; omega) | rfl | (simp only [lenE, markR_len]; done) | (simp only [lenE, markR_len]; omega)) only [runE, mapE, listE, initT_5, initT_6, initT_7, initT_8, resV, oneV, binA, unA, reduceCtorEq, Nat.reduceEqDiff, Nat.reduceAdd, Nat.reduceLT, Nat.reduceLeDiff, Nat.reduceMul, Nat.reduceSub, ↓reduceIte, decide_true, decide_false, Bool.true_eq_false, Bool.false_eq_true, Bool.not_true, Bool.not_false, if_true, if_false, and_true, true_and, memE, celE, w64, Nat.zero_add, Nat.add_zero, Nat.mul_one, putL, and_self, ldn, Bool.and_self, Bool.and_true, Bool.true_and, Bool.and_false, Bool.false_and, Bool.or_false, Bool.false_or, ext_2_0, ext_2_1, bne_self_eq_false, beq_self_eq_true, goG_undef, Bool.not_true, Bool.not_false, stP_aggL, OwnR.ld4r b3, b3r, hg, f4]
    try clear b3r
    refine callH_rc (implWaits_rc _ _ c hc) ?_
    rintro r new ⟨rfl, nr⟩
    have hc := hc.ext new
    have R1 := R1.ext new
    have R3 := R3.ext new
    have R5 := R5.ext new
    have R7 := R7.ext new
    have b3 : (N11 ++ new)[pb3]? = some ⟨.own, 26, [c1, c2, c3, c4]⟩ := by rw [List.getElem?_append_left (List.getElem?_eq_some_iff.1 b3).1]; exact b3
    obtain ⟨N12, hN⟩ : ∃ N, N = N11 ++ new := ⟨_, rfl⟩
    rw [← hN] at hc R1 R3 R5 R7 b3 ⊢
    clear hN
    clear nr
    have b3r : ∀ j, rdc N12 pb3 j = ([c1, c2, c3, c4] : List Value)[j]? := fun j => by unfold rdc; rw [b3]; rfl
    try simp (config := {implicitDefEqProofs := false, maxDischargeDepth := 20}) (disch := first | omega | (simp only [lenE]; done) | (simp only [lenE]; omega) | rfl | (simp only [lenE, markR_len]; done) | (simp only [lenE, markR_len]; omega)) only [runE, mapE, listE, initT_5, initT_6, initT_7, initT_8, resV, oneV, binA, unA, reduceCtorEq, Nat.reduceEqDiff, Nat.reduceAdd, Nat.reduceLT, Nat.reduceLeDiff, Nat.reduceMul, Nat.reduceSub, ↓reduceIte, decide_true, decide_false, Bool.true_eq_false, Bool.false_eq_true, Bool.not_true, Bool.not_false, if_true, if_false, and_true, true_and, memE, celE, w64, Nat.zero_add, Nat.add_zero, Nat.mul_one, putL, and_self, ldn, Bool.and_self, Bool.and_true, Bool.true_and, Bool.and_false, Bool.false_and, Bool.or_false, Bool.false_or, ext_2_0, ext_2_1, bne_self_eq_false, beq_self_eq_true, goG_undef, Bool.not_true, Bool.not_false, stP_aggL, OwnR.ld4r b3, b3r, hg, f4]
    try clear b3r
    refine callH_rc (C7 _ hc) ?_
    rintro r new ⟨nr, -, iR8, fR8, rfl, hrow⟩
    have hc := hc.ext new
    have R1 := R1.ext new
    have R3 := R3.ext new
    have R5 := R5.ext new
    have R7 := R7.ext new
    have b3 : (N12 ++ new)[pb3]? = some ⟨.own, 26, [c1, c2, c3, c4]⟩ := by rw [List.getElem?_append_left (List.getElem?_eq_some_iff.1 b3).1]; exact b3
    have R8 := (OwnR.new hrow rfl : OwnR (N12 ++ new) (N12.length + iR8) ts)
    obtain ⟨N13, hN⟩ : ∃ N, N = N12 ++ new := ⟨_, rfl⟩
    rw [← hN] at hc R1 R3 R5 R7 R8 b3 ⊢
    clear hN
    obtain ⟨dR8, hd⟩ : ∃ t, t = N12.length + iR8 := ⟨_, rfl⟩
    rw [← hd] at R8 ⊢
    clear hd nr hrow
    have b3r : ∀ j, rdc N13 pb3 j = ([c1, c2, c3, c4] : List Value)[j]? := fun j => by unfold rdc; rw [b3]; rfl
    try simp (config := {implicitDefEqProofs := false, maxDischargeDepth := 20}) (disch := first | omega | (simp only [lenE]; done) | (simp only [lenE]; omega) | rfl | (simp only [lenE, markR_len]; done) | (simp only [lenE, markR_len]; omega)) only [runE, mapE, listE, initT_5, initT_6, initT_7, initT_8, resV, oneV, binA, unA, reduceCtorEq, Nat.reduceEqDiff, Nat.reduceAdd, Nat.reduceLT, Nat.reduceLeDiff, Nat.reduceMul, Nat.reduceSub, ↓reduceIte, decide_true, decide_false, Bool.true_eq_false, Bool.false_eq_true, Bool.not_true, Bool.not_false, if_true, if_false, and_true, true_and, memE, celE, w64, Nat.zero_add, Nat.add_zero, Nat.mul_one, putL, and_self, ldn, Bool.and_self, Bool.and_true, Bool.true_and, Bool.and_false, Bool.false_and, Bool.or_false, Bool.false_or, ext_2_0, ext_2_1, bne_self_eq_false, beq_self_eq_true, goG_undef, Bool.not_true, Bool.not_false, stP_aggL, OwnR.ld4r b3, b3r, hg, f4, f5]
    try clear b3r
    obtain ⟨wv, hwv⟩ : ∃ t, t = waitsB c := ⟨_, rfl⟩
    rw [← hwv]
    have ll := f.ll
    have n8 := f.g.n8
    have b3r : ∀ j, rdc N13 pb3 j = ([c1, c2, c3, c4] : List Value)[j]? := fun j => by unfold rdc; rw [b3]; rfl
    obtain ⟨w1, w2, w3, w4, ew, j1, -, -, -⟩ := hc.ok
    cases ew
    have hL := R3.ints (by omega) fR3
    have hH := R1.ints (by omega) fR1
    have hT := R8.ints (by omega) fR8
    refine loop_inv mixed (fun s => ∃ i : Nat, i ≤ c.need.length ∧ s.m = N13 ∧ s.t 3 = .pointer (some ⟨pb3, 0, none⟩) ∧ s.t 4 = .slice (some ⟨dR1, 0, none⟩) hs.length fR1 ∧ s.t 8 = .slice (some ⟨dR3, 0, none⟩) ls.length fR3 ∧ s.t 22 = .bool wv ∧ s.t 24 = .slice (some ⟨dR8, 0, none⟩) ts.length fR8 ∧ s.t 26 = .bool (posTo c i) ∧ s.t 27 = .int .i64 ((i : Int) + 1)) (fun s => c.need.length + 1 - (intOf (s.t 27)).toNat) ⟨0, by omega, rfl, rfl, rfl, rfl, rfl, rfl, rfl, rfl⟩ ?_
    rintro s ⟨i, hi, tm, t3, t4, t8, t22, t24, t26, t27⟩
    by_cases hlt : i < c.need.length
    · have hlt' : (i : Int) + 1 ≤ (ls.length : Int) := by omega
      have iN := j1.at_ i hlt
      have lN := j1.ld i hlt
      have iL := hL.at_ i (by omega)
      have lL := hL.ld i (by omega)
      have hm := f.mem i hlt
      have ht := f.turn i hlt
      have subz : (i : Int) + 1 - 1 = (i : Int) := by omega
      have wz : IntKind.i64.wrap ((i : Int) + 1 - 1) = (i : Int) := by rw [subz]; exact IntWalk.i64_in _ ⟨by omega, by omega⟩
      cases hpi : posTo c i with
      | false =>
        by_cases hp : 0 < c.need.getD i 0
        · have hpd : decide (0 < c.need.getD i 0) = true := decide_eq_true hp
          cases he : (ls.getD i 0 == (i : Int)) with
          | false =>
            rw [he, hpd] at hm
            try simp (config := {implicitDefEqProofs := false, maxDischargeDepth := 20}) (disch := first | omega | (simp only [lenE]; done) | (simp only [lenE]; omega) | rfl | (simp only [lenE, markR_len]; done) | (simp only [lenE, markR_len]; omega)) only [runE, mapE, listE, initT_5, initT_6, initT_7, initT_8, resV, oneV, binA, unA, reduceCtorEq, Nat.reduceEqDiff, Nat.reduceAdd, Nat.reduceLT, Nat.reduceLeDiff, Nat.reduceMul, Nat.reduceSub, ↓reduceIte, decide_true, decide_false, Bool.true_eq_false, Bool.false_eq_true, Bool.not_true, Bool.not_false, if_true, if_false, and_true, true_and, memE, celE, w64, Nat.zero_add, Nat.add_zero, Nat.mul_one, putL, and_self, ldn, Bool.and_self, Bool.and_true, Bool.true_and, Bool.and_false, Bool.false_and, Bool.or_false, Bool.false_or, ext_2_0, ext_2_1, bne_self_eq_false, beq_self_eq_true, goG_undef, Bool.not_true, Bool.not_false, stP_aggL, tm, t3, t4, t8, t22, t24, t26, t27, hlt', b3r, iN, lN, iL, lL, wz, gt_iff_lt, hpi, hp, hpd, he]
            refine rcallH_rc (vHas_rc _ _ hs ((i : Int) + 1) hH) ?_
            rintro r new ⟨rfl, rfl⟩
            rw [List.append_nil, hm]
            cases hw : wv with
            | false =>
              try simp (config := {implicitDefEqProofs := false, maxDischargeDepth := 20}) (disch := first | omega | (simp only [lenE]; done) | (simp only [lenE]; omega) | rfl | (simp only [lenE, markR_len]; done) | (simp only [lenE, markR_len]; omega)) only [runE, mapE, listE, initT_5, initT_6, initT_7, initT_8, resV, oneV, binA, unA, reduceCtorEq, Nat.reduceEqDiff, Nat.reduceAdd, Nat.reduceLT, Nat.reduceLeDiff, Nat.reduceMul, Nat.reduceSub, ↓reduceIte, decide_true, decide_false, Bool.true_eq_false, Bool.false_eq_true, Bool.not_true, Bool.not_false, if_true, if_false, and_true, true_and, memE, celE, w64, Nat.zero_add, Nat.add_zero, Nat.mul_one, putL, and_self, ldn, Bool.and_self, Bool.and_true, Bool.true_and, Bool.and_false, Bool.false_and, Bool.or_false, Bool.false_or, ext_2_0, ext_2_1, bne_self_eq_false, beq_self_eq_true, goG_undef, Bool.not_true, Bool.not_false, stP_aggL, tm, t3, t4, t8, t22, t24, t26, t27, hlt', b3r, iN, lN, iL, lL, wz, gt_iff_lt, hpi, hp, hpd, he, hw]
              have e3 := posTo_s c i
              rw [hpi, hpd] at e3
              refine ⟨⟨i + 1, by omega, ?_⟩, by simp [intOf]; omega⟩
              simp [e3]
            | true =>
              try simp (config := {implicitDefEqProofs := false, maxDischargeDepth := 20}) (disch := first | omega | (simp only [lenE]; done) | (simp only [lenE]; omega) | rfl | (simp only [lenE, markR_len]; done) | (simp only [lenE, markR_len]; omega)) only [runE, mapE, listE, initT_5, initT_6, initT_7, initT_8, resV, oneV, binA, unA, reduceCtorEq, Nat.reduceEqDiff, Nat.reduceAdd, Nat.reduceLT, Nat.reduceLeDiff, Nat.reduceMul, Nat.reduceSub, ↓reduceIte, decide_true, decide_false, Bool.true_eq_false, Bool.false_eq_true, Bool.not_true, Bool.not_false, if_true, if_false, and_true, true_and, memE, celE, w64, Nat.zero_add, Nat.add_zero, Nat.mul_one, putL, and_self, ldn, Bool.and_self, Bool.and_true, Bool.true_and, Bool.and_false, Bool.false_and, Bool.or_false, Bool.false_or, ext_2_0, ext_2_1, bne_self_eq_false, beq_self_eq_true, goG_undef, Bool.not_true, Bool.not_false, stP_aggL, tm, t3, t4, t8, t22, t24, t26, t27, hlt', b3r, iN, lN, iL, lL, wz, gt_iff_lt, hpi, hp, hpd, he, hw]
              refine rcallH_rc (vHas_rc _ _ hs ((i : Int) + 1) hH) ?_
              rintro r new ⟨rfl, rfl⟩
              rw [List.append_nil, hm]
              try simp (config := {implicitDefEqProofs := false, maxDischargeDepth := 20}) (disch := first | omega | (simp only [lenE]; done) | (simp only [lenE]; omega) | rfl | (simp only [lenE, markR_len]; done) | (simp only [lenE, markR_len]; omega)) only [runE, mapE, listE, initT_5, initT_6, initT_7, initT_8, resV, oneV, binA, unA, reduceCtorEq, Nat.reduceEqDiff, Nat.reduceAdd, Nat.reduceLT, Nat.reduceLeDiff, Nat.reduceMul, Nat.reduceSub, ↓reduceIte, decide_true, decide_false, Bool.true_eq_false, Bool.false_eq_true, Bool.not_true, Bool.not_false, if_true, if_false, and_true, true_and, memE, celE, w64, Nat.zero_add, Nat.add_zero, Nat.mul_one, putL, and_self, ldn, Bool.and_self, Bool.and_true, Bool.true_and, Bool.and_false, Bool.false_and, Bool.or_false, Bool.false_or, ext_2_0, ext_2_1, bne_self_eq_false, beq_self_eq_true, goG_undef, Bool.not_true, Bool.not_false, stP_aggL, tm, t3, t4, t8, t22, t24, t26, t27, hlt', b3r, iN, lN, iL, lL, wz, gt_iff_lt, hpi, hp, hpd, he, hw]
              have e3 := posTo_s c i
              rw [hpi, hpd] at e3
              refine ⟨⟨i + 1, by omega, ?_⟩, by simp [intOf]; omega⟩
              simp [e3]
          | true =>
            rw [he, hpd] at hm
            try simp (config := {implicitDefEqProofs := false, maxDischargeDepth := 20}) (disch := first | omega | (simp only [lenE]; done) | (simp only [lenE]; omega) | rfl | (simp only [lenE, markR_len]; done) | (simp only [lenE, markR_len]; omega)) only [runE, mapE, listE, initT_5, initT_6, initT_7, initT_8, resV, oneV, binA, unA, reduceCtorEq, Nat.reduceEqDiff, Nat.reduceAdd, Nat.reduceLT, Nat.reduceLeDiff, Nat.reduceMul, Nat.reduceSub, ↓reduceIte, decide_true, decide_false, Bool.true_eq_false, Bool.false_eq_true, Bool.not_true, Bool.not_false, if_true, if_false, and_true, true_and, memE, celE, w64, Nat.zero_add, Nat.add_zero, Nat.mul_one, putL, and_self, ldn, Bool.and_self, Bool.and_true, Bool.true_and, Bool.and_false, Bool.false_and, Bool.or_false, Bool.false_or, ext_2_0, ext_2_1, bne_self_eq_false, beq_self_eq_true, goG_undef, Bool.not_true, Bool.not_false, stP_aggL, tm, t3, t4, t8, t22, t24, t26, t27, hlt', b3r, iN, lN, iL, lL, wz, gt_iff_lt, hpi, hp, hpd, he]
            refine rcallH_rc (vHas_rc _ _ hs ((i : Int) + 1) hH) ?_
            rintro r new ⟨rfl, rfl⟩
            rw [List.append_nil, hm]
            cases hw : wv with
            | false =>
              try simp (config := {implicitDefEqProofs := false, maxDischargeDepth := 20}) (disch := first | omega | (simp only [lenE]; done) | (simp only [lenE]; omega) | rfl | (simp only [lenE, markR_len]; done) | (simp only [lenE, markR_len]; omega)) only [runE, mapE, listE, initT_5, initT_6, initT_7, initT_8, resV, oneV, binA, unA, reduceCtorEq, Nat.reduceEqDiff, Nat.reduceAdd, Nat.reduceLT, Nat.reduceLeDiff, Nat.reduceMul, Nat.reduceSub, ↓reduceIte, decide_true, decide_false, Bool.true_eq_false, Bool.false_eq_true, Bool.not_true, Bool.not_false, if_true, if_false, and_true, true_and, memE, celE, w64, Nat.zero_add, Nat.add_zero, Nat.mul_one, putL, and_self, ldn, Bool.and_self, Bool.and_true, Bool.true_and, Bool.and_false, Bool.false_and, Bool.or_false, Bool.false_or, ext_2_0, ext_2_1, bne_self_eq_false, beq_self_eq_true, goG_undef, Bool.not_true, Bool.not_false, stP_aggL, tm, t3, t4, t8, t22, t24, t26, t27, hlt', b3r, iN, lN, iL, lL, wz, gt_iff_lt, hpi, hp, hpd, he, hw]
              have e3 := posTo_s c i
              rw [hpi, hpd] at e3
              refine ⟨⟨i + 1, by omega, ?_⟩, by simp [intOf]; omega⟩
              simp [e3]
            | true =>
              try simp (config := {implicitDefEqProofs := false, maxDischargeDepth := 20}) (disch := first | omega | (simp only [lenE]; done) | (simp only [lenE]; omega) | rfl | (simp only [lenE, markR_len]; done) | (simp only [lenE, markR_len]; omega)) only [runE, mapE, listE, initT_5, initT_6, initT_7, initT_8, resV, oneV, binA, unA, reduceCtorEq, Nat.reduceEqDiff, Nat.reduceAdd, Nat.reduceLT, Nat.reduceLeDiff, Nat.reduceMul, Nat.reduceSub, ↓reduceIte, decide_true, decide_false, Bool.true_eq_false, Bool.false_eq_true, Bool.not_true, Bool.not_false, if_true, if_false, and_true, true_and, memE, celE, w64, Nat.zero_add, Nat.add_zero, Nat.mul_one, putL, and_self, ldn, Bool.and_self, Bool.and_true, Bool.true_and, Bool.and_false, Bool.false_and, Bool.or_false, Bool.false_or, ext_2_0, ext_2_1, bne_self_eq_false, beq_self_eq_true, goG_undef, Bool.not_true, Bool.not_false, stP_aggL, tm, t3, t4, t8, t22, t24, t26, t27, hlt', b3r, iN, lN, iL, lL, wz, gt_iff_lt, hpi, hp, hpd, he, hw]
              refine rcallH_rc (vHas_rc _ _ hs ((i : Int) + 1) hH) ?_
              rintro r new ⟨rfl, rfl⟩
              rw [List.append_nil, hm]
              try simp (config := {implicitDefEqProofs := false, maxDischargeDepth := 20}) (disch := first | omega | (simp only [lenE]; done) | (simp only [lenE]; omega) | rfl | (simp only [lenE, markR_len]; done) | (simp only [lenE, markR_len]; omega)) only [runE, mapE, listE, initT_5, initT_6, initT_7, initT_8, resV, oneV, binA, unA, reduceCtorEq, Nat.reduceEqDiff, Nat.reduceAdd, Nat.reduceLT, Nat.reduceLeDiff, Nat.reduceMul, Nat.reduceSub, ↓reduceIte, decide_true, decide_false, Bool.true_eq_false, Bool.false_eq_true, Bool.not_true, Bool.not_false, if_true, if_false, and_true, true_and, memE, celE, w64, Nat.zero_add, Nat.add_zero, Nat.mul_one, putL, and_self, ldn, Bool.and_self, Bool.and_true, Bool.true_and, Bool.and_false, Bool.false_and, Bool.or_false, Bool.false_or, ext_2_0, ext_2_1, bne_self_eq_false, beq_self_eq_true, goG_undef, Bool.not_true, Bool.not_false, stP_aggL, tm, t3, t4, t8, t22, t24, t26, t27, hlt', b3r, iN, lN, iL, lL, wz, gt_iff_lt, hpi, hp, hpd, he, hw]
              have hin := ht (hwv.symm.trans hw) (of_decide_eq_true hm)
              refine rcallH_rc (vHas_rc _ _ ts (i : Int) hT) ?_
              rintro r new ⟨rfl, rfl⟩
              rw [List.append_nil, decide_eq_true hin]
              try simp (config := {implicitDefEqProofs := false, maxDischargeDepth := 20}) (disch := first | omega | (simp only [lenE]; done) | (simp only [lenE]; omega) | rfl | (simp only [lenE, markR_len]; done) | (simp only [lenE, markR_len]; omega)) only [runE, mapE, listE, initT_5, initT_6, initT_7, initT_8, resV, oneV, binA, unA, reduceCtorEq, Nat.reduceEqDiff, Nat.reduceAdd, Nat.reduceLT, Nat.reduceLeDiff, Nat.reduceMul, Nat.reduceSub, ↓reduceIte, decide_true, decide_false, Bool.true_eq_false, Bool.false_eq_true, Bool.not_true, Bool.not_false, if_true, if_false, and_true, true_and, memE, celE, w64, Nat.zero_add, Nat.add_zero, Nat.mul_one, putL, and_self, ldn, Bool.and_self, Bool.and_true, Bool.true_and, Bool.and_false, Bool.false_and, Bool.or_false, Bool.false_or, ext_2_0, ext_2_1, bne_self_eq_false, beq_self_eq_true, goG_undef, Bool.not_true, Bool.not_false, stP_aggL, tm, t3, t4, t8, t22, t24, t26, t27, hlt', b3r, iN, lN, iL, lL, wz, gt_iff_lt, hpi, hp, hpd, he, hw]
              have e3 := posTo_s c i
              rw [hpi, hpd] at e3
              refine ⟨⟨i + 1, by omega, ?_⟩, by simp [intOf]; omega⟩
              simp [e3]
        · have hpd : decide (0 < c.need.getD i 0) = false := decide_eq_false hp
          cases he : (ls.getD i 0 == (i : Int)) with
          | false =>
            rw [he, hpd] at hm
            try simp (config := {implicitDefEqProofs := false, maxDischargeDepth := 20}) (disch := first | omega | (simp only [lenE]; done) | (simp only [lenE]; omega) | rfl | (simp only [lenE, markR_len]; done) | (simp only [lenE, markR_len]; omega)) only [runE, mapE, listE, initT_5, initT_6, initT_7, initT_8, resV, oneV, binA, unA, reduceCtorEq, Nat.reduceEqDiff, Nat.reduceAdd, Nat.reduceLT, Nat.reduceLeDiff, Nat.reduceMul, Nat.reduceSub, ↓reduceIte, decide_true, decide_false, Bool.true_eq_false, Bool.false_eq_true, Bool.not_true, Bool.not_false, if_true, if_false, and_true, true_and, memE, celE, w64, Nat.zero_add, Nat.add_zero, Nat.mul_one, putL, and_self, ldn, Bool.and_self, Bool.and_true, Bool.true_and, Bool.and_false, Bool.false_and, Bool.or_false, Bool.false_or, ext_2_0, ext_2_1, bne_self_eq_false, beq_self_eq_true, goG_undef, Bool.not_true, Bool.not_false, stP_aggL, tm, t3, t4, t8, t22, t24, t26, t27, hlt', b3r, iN, lN, iL, lL, wz, gt_iff_lt, hpi, hp, hpd, he]
            refine rcallH_rc (vHas_rc _ _ hs ((i : Int) + 1) hH) ?_
            rintro r new ⟨rfl, rfl⟩
            rw [List.append_nil, hm]
            cases hw : wv with
            | false =>
              try simp (config := {implicitDefEqProofs := false, maxDischargeDepth := 20}) (disch := first | omega | (simp only [lenE]; done) | (simp only [lenE]; omega) | rfl | (simp only [lenE, markR_len]; done) | (simp only [lenE, markR_len]; omega)) only [runE, mapE, listE, initT_5, initT_6, initT_7, initT_8, resV, oneV, binA, unA, reduceCtorEq, Nat.reduceEqDiff, Nat.reduceAdd, Nat.reduceLT, Nat.reduceLeDiff, Nat.reduceMul, Nat.reduceSub, ↓reduceIte, decide_true, decide_false, Bool.true_eq_false, Bool.false_eq_true, Bool.not_true, Bool.not_false, if_true, if_false, and_true, true_and, memE, celE, w64, Nat.zero_add, Nat.add_zero, Nat.mul_one, putL, and_self, ldn, Bool.and_self, Bool.and_true, Bool.true_and, Bool.and_false, Bool.false_and, Bool.or_false, Bool.false_or, ext_2_0, ext_2_1, bne_self_eq_false, beq_self_eq_true, goG_undef, Bool.not_true, Bool.not_false, stP_aggL, tm, t3, t4, t8, t22, t24, t26, t27, hlt', b3r, iN, lN, iL, lL, wz, gt_iff_lt, hpi, hp, hpd, he, hw]
              have e3 := posTo_s c i
              rw [hpi, hpd] at e3
              refine ⟨⟨i + 1, by omega, ?_⟩, by simp [intOf]; omega⟩
              simp [e3]
            | true =>
              try simp (config := {implicitDefEqProofs := false, maxDischargeDepth := 20}) (disch := first | omega | (simp only [lenE]; done) | (simp only [lenE]; omega) | rfl | (simp only [lenE, markR_len]; done) | (simp only [lenE, markR_len]; omega)) only [runE, mapE, listE, initT_5, initT_6, initT_7, initT_8, resV, oneV, binA, unA, reduceCtorEq, Nat.reduceEqDiff, Nat.reduceAdd, Nat.reduceLT, Nat.reduceLeDiff, Nat.reduceMul, Nat.reduceSub, ↓reduceIte, decide_true, decide_false, Bool.true_eq_false, Bool.false_eq_true, Bool.not_true, Bool.not_false, if_true, if_false, and_true, true_and, memE, celE, w64, Nat.zero_add, Nat.add_zero, Nat.mul_one, putL, and_self, ldn, Bool.and_self, Bool.and_true, Bool.true_and, Bool.and_false, Bool.false_and, Bool.or_false, Bool.false_or, ext_2_0, ext_2_1, bne_self_eq_false, beq_self_eq_true, goG_undef, Bool.not_true, Bool.not_false, stP_aggL, tm, t3, t4, t8, t22, t24, t26, t27, hlt', b3r, iN, lN, iL, lL, wz, gt_iff_lt, hpi, hp, hpd, he, hw]
              refine rcallH_rc (vHas_rc _ _ hs ((i : Int) + 1) hH) ?_
              rintro r new ⟨rfl, rfl⟩
              rw [List.append_nil, hm]
              try simp (config := {implicitDefEqProofs := false, maxDischargeDepth := 20}) (disch := first | omega | (simp only [lenE]; done) | (simp only [lenE]; omega) | rfl | (simp only [lenE, markR_len]; done) | (simp only [lenE, markR_len]; omega)) only [runE, mapE, listE, initT_5, initT_6, initT_7, initT_8, resV, oneV, binA, unA, reduceCtorEq, Nat.reduceEqDiff, Nat.reduceAdd, Nat.reduceLT, Nat.reduceLeDiff, Nat.reduceMul, Nat.reduceSub, ↓reduceIte, decide_true, decide_false, Bool.true_eq_false, Bool.false_eq_true, Bool.not_true, Bool.not_false, if_true, if_false, and_true, true_and, memE, celE, w64, Nat.zero_add, Nat.add_zero, Nat.mul_one, putL, and_self, ldn, Bool.and_self, Bool.and_true, Bool.true_and, Bool.and_false, Bool.false_and, Bool.or_false, Bool.false_or, ext_2_0, ext_2_1, bne_self_eq_false, beq_self_eq_true, goG_undef, Bool.not_true, Bool.not_false, stP_aggL, tm, t3, t4, t8, t22, t24, t26, t27, hlt', b3r, iN, lN, iL, lL, wz, gt_iff_lt, hpi, hp, hpd, he, hw]
              have e3 := posTo_s c i
              rw [hpi, hpd] at e3
              refine ⟨⟨i + 1, by omega, ?_⟩, by simp [intOf]; omega⟩
              simp [e3]
          | true =>
            rw [he, hpd] at hm
            try simp (config := {implicitDefEqProofs := false, maxDischargeDepth := 20}) (disch := first | omega | (simp only [lenE]; done) | (simp only [lenE]; omega) | rfl | (simp only [lenE, markR_len]; done) | (simp only [lenE, markR_len]; omega)) only [runE, mapE, listE, initT_5, initT_6, initT_7, initT_8, resV, oneV, binA, unA, reduceCtorEq, Nat.reduceEqDiff, Nat.reduceAdd, Nat.reduceLT, Nat.reduceLeDiff, Nat.reduceMul, Nat.reduceSub, ↓reduceIte, decide_true, decide_false, Bool.true_eq_false, Bool.false_eq_true, Bool.not_true, Bool.not_false, if_true, if_false, and_true, true_and, memE, celE, w64, Nat.zero_add, Nat.add_zero, Nat.mul_one, putL, and_self, ldn, Bool.and_self, Bool.and_true, Bool.true_and, Bool.and_false, Bool.false_and, Bool.or_false, Bool.false_or, ext_2_0, ext_2_1, bne_self_eq_false, beq_self_eq_true, goG_undef, Bool.not_true, Bool.not_false, stP_aggL, tm, t3, t4, t8, t22, t24, t26, t27, hlt', b3r, iN, lN, iL, lL, wz, gt_iff_lt, hpi, hp, hpd, he]
            refine rcallH_rc (vHas_rc _ _ hs ((i : Int) + 1) hH) ?_
            rintro r new ⟨rfl, rfl⟩
            rw [List.append_nil, hm]
            cases hw : wv with
            | false =>
              try simp (config := {implicitDefEqProofs := false, maxDischargeDepth := 20}) (disch := first | omega | (simp only [lenE]; done) | (simp only [lenE]; omega) | rfl | (simp only [lenE, markR_len]; done) | (simp only [lenE, markR_len]; omega)) only [runE, mapE, listE, initT_5, initT_6, initT_7, initT_8, resV, oneV, binA, unA, reduceCtorEq, Nat.reduceEqDiff, Nat.reduceAdd, Nat.reduceLT, Nat.reduceLeDiff, Nat.reduceMul, Nat.reduceSub, ↓reduceIte, decide_true, decide_false, Bool.true_eq_false, Bool.false_eq_true, Bool.not_true, Bool.not_false, if_true, if_false, and_true, true_and, memE, celE, w64, Nat.zero_add, Nat.add_zero, Nat.mul_one, putL, and_self, ldn, Bool.and_self, Bool.and_true, Bool.true_and, Bool.and_false, Bool.false_and, Bool.or_false, Bool.false_or, ext_2_0, ext_2_1, bne_self_eq_false, beq_self_eq_true, goG_undef, Bool.not_true, Bool.not_false, stP_aggL, tm, t3, t4, t8, t22, t24, t26, t27, hlt', b3r, iN, lN, iL, lL, wz, gt_iff_lt, hpi, hp, hpd, he, hw]
              have e3 := posTo_s c i
              rw [hpi, hpd] at e3
              refine ⟨⟨i + 1, by omega, ?_⟩, by simp [intOf]; omega⟩
              simp [e3]
            | true =>
              try simp (config := {implicitDefEqProofs := false, maxDischargeDepth := 20}) (disch := first | omega | (simp only [lenE]; done) | (simp only [lenE]; omega) | rfl | (simp only [lenE, markR_len]; done) | (simp only [lenE, markR_len]; omega)) only [runE, mapE, listE, initT_5, initT_6, initT_7, initT_8, resV, oneV, binA, unA, reduceCtorEq, Nat.reduceEqDiff, Nat.reduceAdd, Nat.reduceLT, Nat.reduceLeDiff, Nat.reduceMul, Nat.reduceSub, ↓reduceIte, decide_true, decide_false, Bool.true_eq_false, Bool.false_eq_true, Bool.not_true, Bool.not_false, if_true, if_false, and_true, true_and, memE, celE, w64, Nat.zero_add, Nat.add_zero, Nat.mul_one, putL, and_self, ldn, Bool.and_self, Bool.and_true, Bool.true_and, Bool.and_false, Bool.false_and, Bool.or_false, Bool.false_or, ext_2_0, ext_2_1, bne_self_eq_false, beq_self_eq_true, goG_undef, Bool.not_true, Bool.not_false, stP_aggL, tm, t3, t4, t8, t22, t24, t26, t27, hlt', b3r, iN, lN, iL, lL, wz, gt_iff_lt, hpi, hp, hpd, he, hw]
              refine rcallH_rc (vHas_rc _ _ hs ((i : Int) + 1) hH) ?_
              rintro r new ⟨rfl, rfl⟩
              rw [List.append_nil, hm]
              try simp (config := {implicitDefEqProofs := false, maxDischargeDepth := 20}) (disch := first | omega | (simp only [lenE]; done) | (simp only [lenE]; omega) | rfl | (simp only [lenE, markR_len]; done) | (simp only [lenE, markR_len]; omega)) only [runE, mapE, listE, initT_5, initT_6, initT_7, initT_8, resV, oneV, binA, unA, reduceCtorEq, Nat.reduceEqDiff, Nat.reduceAdd, Nat.reduceLT, Nat.reduceLeDiff, Nat.reduceMul, Nat.reduceSub, ↓reduceIte, decide_true, decide_false, Bool.true_eq_false, Bool.false_eq_true, Bool.not_true, Bool.not_false, if_true, if_false, and_true, true_and, memE, celE, w64, Nat.zero_add, Nat.add_zero, Nat.mul_one, putL, and_self, ldn, Bool.and_self, Bool.and_true, Bool.true_and, Bool.and_false, Bool.false_and, Bool.or_false, Bool.false_or, ext_2_0, ext_2_1, bne_self_eq_false, beq_self_eq_true, goG_undef, Bool.not_true, Bool.not_false, stP_aggL, tm, t3, t4, t8, t22, t24, t26, t27, hlt', b3r, iN, lN, iL, lL, wz, gt_iff_lt, hpi, hp, hpd, he, hw]
              have e3 := posTo_s c i
              rw [hpi, hpd] at e3
              refine ⟨⟨i + 1, by omega, ?_⟩, by simp [intOf]; omega⟩
              simp [e3]
      | true =>
        by_cases hp : 0 < c.need.getD i 0
        · have hpd : decide (0 < c.need.getD i 0) = true := decide_eq_true hp
          cases he : (ls.getD i 0 == (i : Int)) with
          | false =>
            rw [he, hpd] at hm
            try simp (config := {implicitDefEqProofs := false, maxDischargeDepth := 20}) (disch := first | omega | (simp only [lenE]; done) | (simp only [lenE]; omega) | rfl | (simp only [lenE, markR_len]; done) | (simp only [lenE, markR_len]; omega)) only [runE, mapE, listE, initT_5, initT_6, initT_7, initT_8, resV, oneV, binA, unA, reduceCtorEq, Nat.reduceEqDiff, Nat.reduceAdd, Nat.reduceLT, Nat.reduceLeDiff, Nat.reduceMul, Nat.reduceSub, ↓reduceIte, decide_true, decide_false, Bool.true_eq_false, Bool.false_eq_true, Bool.not_true, Bool.not_false, if_true, if_false, and_true, true_and, memE, celE, w64, Nat.zero_add, Nat.add_zero, Nat.mul_one, putL, and_self, ldn, Bool.and_self, Bool.and_true, Bool.true_and, Bool.and_false, Bool.false_and, Bool.or_false, Bool.false_or, ext_2_0, ext_2_1, bne_self_eq_false, beq_self_eq_true, goG_undef, Bool.not_true, Bool.not_false, stP_aggL, tm, t3, t4, t8, t22, t24, t26, t27, hlt', b3r, iN, lN, iL, lL, wz, gt_iff_lt, hpi, hp, hpd, he]
            refine rcallH_rc (vHas_rc _ _ hs ((i : Int) + 1) hH) ?_
            rintro r new ⟨rfl, rfl⟩
            rw [List.append_nil, hm]
            cases hw : wv with
            | false =>
              try simp (config := {implicitDefEqProofs := false, maxDischargeDepth := 20}) (disch := first | omega | (simp only [lenE]; done) | (simp only [lenE]; omega) | rfl | (simp only [lenE, markR_len]; done) | (simp only [lenE, markR_len]; omega)) only [runE, mapE, listE, initT_5, initT_6, initT_7, initT_8, resV, oneV, binA, unA, reduceCtorEq, Nat.reduceEqDiff, Nat.reduceAdd, Nat.reduceLT, Nat.reduceLeDiff, Nat.reduceMul, Nat.reduceSub, ↓reduceIte, decide_true, decide_false, Bool.true_eq_false, Bool.false_eq_true, Bool.not_true, Bool.not_false, if_true, if_false, and_true, true_and, memE, celE, w64, Nat.zero_add, Nat.add_zero, Nat.mul_one, putL, and_self, ldn, Bool.and_self, Bool.and_true, Bool.true_and, Bool.and_false, Bool.false_and, Bool.or_false, Bool.false_or, ext_2_0, ext_2_1, bne_self_eq_false, beq_self_eq_true, goG_undef, Bool.not_true, Bool.not_false, stP_aggL, tm, t3, t4, t8, t22, t24, t26, t27, hlt', b3r, iN, lN, iL, lL, wz, gt_iff_lt, hpi, hp, hpd, he, hw]
              have e3 := posTo_s c i
              rw [hpi, hpd] at e3
              refine ⟨⟨i + 1, by omega, ?_⟩, by simp [intOf]; omega⟩
              simp [e3]
            | true =>
              try simp (config := {implicitDefEqProofs := false, maxDischargeDepth := 20}) (disch := first | omega | (simp only [lenE]; done) | (simp only [lenE]; omega) | rfl | (simp only [lenE, markR_len]; done) | (simp only [lenE, markR_len]; omega)) only [runE, mapE, listE, initT_5, initT_6, initT_7, initT_8, resV, oneV, binA, unA, reduceCtorEq, Nat.reduceEqDiff, Nat.reduceAdd, Nat.reduceLT, Nat.reduceLeDiff, Nat.reduceMul, Nat.reduceSub, ↓reduceIte, decide_true, decide_false, Bool.true_eq_false, Bool.false_eq_true, Bool.not_true, Bool.not_false, if_true, if_false, and_true, true_and, memE, celE, w64, Nat.zero_add, Nat.add_zero, Nat.mul_one, putL, and_self, ldn, Bool.and_self, Bool.and_true, Bool.true_and, Bool.and_false, Bool.false_and, Bool.or_false, Bool.false_or, ext_2_0, ext_2_1, bne_self_eq_false, beq_self_eq_true, goG_undef, Bool.not_true, Bool.not_false, stP_aggL, tm, t3, t4, t8, t22, t24, t26, t27, hlt', b3r, iN, lN, iL, lL, wz, gt_iff_lt, hpi, hp, hpd, he, hw]
              refine rcallH_rc (vHas_rc _ _ hs ((i : Int) + 1) hH) ?_
              rintro r new ⟨rfl, rfl⟩
              rw [List.append_nil, hm]
              try simp (config := {implicitDefEqProofs := false, maxDischargeDepth := 20}) (disch := first | omega | (simp only [lenE]; done) | (simp only [lenE]; omega) | rfl | (simp only [lenE, markR_len]; done) | (simp only [lenE, markR_len]; omega)) only [runE, mapE, listE, initT_5, initT_6, initT_7, initT_8, resV, oneV, binA, unA, reduceCtorEq, Nat.reduceEqDiff, Nat.reduceAdd, Nat.reduceLT, Nat.reduceLeDiff, Nat.reduceMul, Nat.reduceSub, ↓reduceIte, decide_true, decide_false, Bool.true_eq_false, Bool.false_eq_true, Bool.not_true, Bool.not_false, if_true, if_false, and_true, true_and, memE, celE, w64, Nat.zero_add, Nat.add_zero, Nat.mul_one, putL, and_self, ldn, Bool.and_self, Bool.and_true, Bool.true_and, Bool.and_false, Bool.false_and, Bool.or_false, Bool.false_or, ext_2_0, ext_2_1, bne_self_eq_false, beq_self_eq_true, goG_undef, Bool.not_true, Bool.not_false, stP_aggL, tm, t3, t4, t8, t22, t24, t26, t27, hlt', b3r, iN, lN, iL, lL, wz, gt_iff_lt, hpi, hp, hpd, he, hw]
              have e3 := posTo_s c i
              rw [hpi, hpd] at e3
              refine ⟨⟨i + 1, by omega, ?_⟩, by simp [intOf]; omega⟩
              simp [e3]
          | true =>
            rw [he, hpd] at hm
            try simp (config := {implicitDefEqProofs := false, maxDischargeDepth := 20}) (disch := first | omega | (simp only [lenE]; done) | (simp only [lenE]; omega) | rfl | (simp only [lenE, markR_len]; done) | (simp only [lenE, markR_len]; omega)) only [runE, mapE, listE, initT_5, initT_6, initT_7, initT_8, resV, oneV, binA, unA, reduceCtorEq, Nat.reduceEqDiff, Nat.reduceAdd, Nat.reduceLT, Nat.reduceLeDiff, Nat.reduceMul, Nat.reduceSub, ↓reduceIte, decide_true, decide_false, Bool.true_eq_false, Bool.false_eq_true, Bool.not_true, Bool.not_false, if_true, if_false, and_true, true_and, memE, celE, w64, Nat.zero_add, Nat.add_zero, Nat.mul_one, putL, and_self, ldn, Bool.and_self, Bool.and_true, Bool.true_and, Bool.and_false, Bool.false_and, Bool.or_false, Bool.false_or, ext_2_0, ext_2_1, bne_self_eq_false, beq_self_eq_true, goG_undef, Bool.not_true, Bool.not_false, stP_aggL, tm, t3, t4, t8, t22, t24, t26, t27, hlt', b3r, iN, lN, iL, lL, wz, gt_iff_lt, hpi, hp, hpd, he]
            refine rcallH_rc (vHas_rc _ _ hs ((i : Int) + 1) hH) ?_
            rintro r new ⟨rfl, rfl⟩
            rw [List.append_nil, hm]
            cases hw : wv with
            | false =>
              try simp (config := {implicitDefEqProofs := false, maxDischargeDepth := 20}) (disch := first | omega | (simp only [lenE]; done) | (simp only [lenE]; omega) | rfl | (simp only [lenE, markR_len]; done) | (simp only [lenE, markR_len]; omega)) only [runE, mapE, listE, initT_5, initT_6, initT_7, initT_8, resV, oneV, binA, unA, reduceCtorEq, Nat.reduceEqDiff, Nat.reduceAdd, Nat.reduceLT, Nat.reduceLeDiff, Nat.reduceMul, Nat.reduceSub, ↓reduceIte, decide_true, decide_false, Bool.true_eq_false, Bool.false_eq_true, Bool.not_true, Bool.not_false, if_true, if_false, and_true, true_and, memE, celE, w64, Nat.zero_add, Nat.add_zero, Nat.mul_one, putL, and_self, ldn, Bool.and_self, Bool.and_true, Bool.true_and, Bool.and_false, Bool.false_and, Bool.or_false, Bool.false_or, ext_2_0, ext_2_1, bne_self_eq_false, beq_self_eq_true, goG_undef, Bool.not_true, Bool.not_false, stP_aggL, tm, t3, t4, t8, t22, t24, t26, t27, hlt', b3r, iN, lN, iL, lL, wz, gt_iff_lt, hpi, hp, hpd, he, hw]
              have e3 := posTo_s c i
              rw [hpi, hpd] at e3
              refine ⟨⟨i + 1, by omega, ?_⟩, by simp [intOf]; omega⟩
              simp [e3]
            | true =>
              try simp (config := {implicitDefEqProofs := false, maxDischargeDepth := 20}) (disch := first | omega | (simp only [lenE]; done) | (simp only [lenE]; omega) | rfl | (simp only [lenE, markR_len]; done) | (simp only [lenE, markR_len]; omega)) only [runE, mapE, listE, initT_5, initT_6, initT_7, initT_8, resV, oneV, binA, unA, reduceCtorEq, Nat.reduceEqDiff, Nat.reduceAdd, Nat.reduceLT, Nat.reduceLeDiff, Nat.reduceMul, Nat.reduceSub, ↓reduceIte, decide_true, decide_false, Bool.true_eq_false, Bool.false_eq_true, Bool.not_true, Bool.not_false, if_true, if_false, and_true, true_and, memE, celE, w64, Nat.zero_add, Nat.add_zero, Nat.mul_one, putL, and_self, ldn, Bool.and_self, Bool.and_true, Bool.true_and, Bool.and_false, Bool.false_and, Bool.or_false, Bool.false_or, ext_2_0, ext_2_1, bne_self_eq_false, beq_self_eq_true, goG_undef, Bool.not_true, Bool.not_false, stP_aggL, tm, t3, t4, t8, t22, t24, t26, t27, hlt', b3r, iN, lN, iL, lL, wz, gt_iff_lt, hpi, hp, hpd, he, hw]
              refine rcallH_rc (vHas_rc _ _ hs ((i : Int) + 1) hH) ?_
              rintro r new ⟨rfl, rfl⟩
              rw [List.append_nil, hm]
              try simp (config := {implicitDefEqProofs := false, maxDischargeDepth := 20}) (disch := first | omega | (simp only [lenE]; done) | (simp only [lenE]; omega) | rfl | (simp only [lenE, markR_len]; done) | (simp only [lenE, markR_len]; omega)) only [runE, mapE, listE, initT_5, initT_6, initT_7, initT_8, resV, oneV, binA, unA, reduceCtorEq, Nat.reduceEqDiff, Nat.reduceAdd, Nat.reduceLT, Nat.reduceLeDiff, Nat.reduceMul, Nat.reduceSub, ↓reduceIte, decide_true, decide_false, Bool.true_eq_false, Bool.false_eq_true, Bool.not_true, Bool.not_false, if_true, if_false, and_true, true_and, memE, celE, w64, Nat.zero_add, Nat.add_zero, Nat.mul_one, putL, and_self, ldn, Bool.and_self, Bool.and_true, Bool.true_and, Bool.and_false, Bool.false_and, Bool.or_false, Bool.false_or, ext_2_0, ext_2_1, bne_self_eq_false, beq_self_eq_true, goG_undef, Bool.not_true, Bool.not_false, stP_aggL, tm, t3, t4, t8, t22, t24, t26, t27, hlt', b3r, iN, lN, iL, lL, wz, gt_iff_lt, hpi, hp, hpd, he, hw]
              have hin := ht (hwv.symm.trans hw) (of_decide_eq_true hm)
              refine rcallH_rc (vHas_rc _ _ ts (i : Int) hT) ?_
              rintro r new ⟨rfl, rfl⟩
              rw [List.append_nil, decide_eq_true hin]
              try simp (config := {implicitDefEqProofs := false, maxDischargeDepth := 20}) (disch := first | omega | (simp only [lenE]; done) | (simp only [lenE]; omega) | rfl | (simp only [lenE, markR_len]; done) | (simp only [lenE, markR_len]; omega)) only [runE, mapE, listE, initT_5, initT_6, initT_7, initT_8, resV, oneV, binA, unA, reduceCtorEq, Nat.reduceEqDiff, Nat.reduceAdd, Nat.reduceLT, Nat.reduceLeDiff, Nat.reduceMul, Nat.reduceSub, ↓reduceIte, decide_true, decide_false, Bool.true_eq_false, Bool.false_eq_true, Bool.not_true, Bool.not_false, if_true, if_false, and_true, true_and, memE, celE, w64, Nat.zero_add, Nat.add_zero, Nat.mul_one, putL, and_self, ldn, Bool.and_self, Bool.and_true, Bool.true_and, Bool.and_false, Bool.false_and, Bool.or_false, Bool.false_or, ext_2_0, ext_2_1, bne_self_eq_false, beq_self_eq_true, goG_undef, Bool.not_true, Bool.not_false, stP_aggL, tm, t3, t4, t8, t22, t24, t26, t27, hlt', b3r, iN, lN, iL, lL, wz, gt_iff_lt, hpi, hp, hpd, he, hw]
              have e3 := posTo_s c i
              rw [hpi, hpd] at e3
              refine ⟨⟨i + 1, by omega, ?_⟩, by simp [intOf]; omega⟩
              simp [e3]
        · have hpd : decide (0 < c.need.getD i 0) = false := decide_eq_false hp
          cases he : (ls.getD i 0 == (i : Int)) with
          | false =>
            rw [he, hpd] at hm
            try simp (config := {implicitDefEqProofs := false, maxDischargeDepth := 20}) (disch := first | omega | (simp only [lenE]; done) | (simp only [lenE]; omega) | rfl | (simp only [lenE, markR_len]; done) | (simp only [lenE, markR_len]; omega)) only [runE, mapE, listE, initT_5, initT_6, initT_7, initT_8, resV, oneV, binA, unA, reduceCtorEq, Nat.reduceEqDiff, Nat.reduceAdd, Nat.reduceLT, Nat.reduceLeDiff, Nat.reduceMul, Nat.reduceSub, ↓reduceIte, decide_true, decide_false, Bool.true_eq_false, Bool.false_eq_true, Bool.not_true, Bool.not_false, if_true, if_false, and_true, true_and, memE, celE, w64, Nat.zero_add, Nat.add_zero, Nat.mul_one, putL, and_self, ldn, Bool.and_self, Bool.and_true, Bool.true_and, Bool.and_false, Bool.false_and, Bool.or_false, Bool.false_or, ext_2_0, ext_2_1, bne_self_eq_false, beq_self_eq_true, goG_undef, Bool.not_true, Bool.not_false, stP_aggL, tm, t3, t4, t8, t22, t24, t26, t27, hlt', b3r, iN, lN, iL, lL, wz, gt_iff_lt, hpi, hp, hpd, he]
            refine rcallH_rc (vHas_rc _ _ hs ((i : Int) + 1) hH) ?_
            rintro r new ⟨rfl, rfl⟩
            rw [List.append_nil, hm]
            cases hw : wv with
            | false =>
              try simp (config := {implicitDefEqProofs := false, maxDischargeDepth := 20}) (disch := first | omega | (simp only [lenE]; done) | (simp only [lenE]; omega) | rfl | (simp only [lenE, markR_len]; done) | (simp only [lenE, markR_len]; omega)) only [runE, mapE, listE, initT_5, initT_6, initT_7, initT_8, resV, oneV, binA, unA, reduceCtorEq, Nat.reduceEqDiff, Nat.reduceAdd, Nat.reduceLT, Nat.reduceLeDiff, Nat.reduceMul, Nat.reduceSub, ↓reduceIte, decide_true, decide_false, Bool.true_eq_false, Bool.false_eq_true, Bool.not_true, Bool.not_false, if_true, if_false, and_true, true_and, memE, celE, w64, Nat.zero_add, Nat.add_zero, Nat.mul_one, putL, and_self, ldn, Bool.and_self, Bool.and_true, Bool.true_and, Bool.and_false, Bool.false_and, Bool.or_false, Bool.false_or, ext_2_0, ext_2_1, bne_self_eq_false, beq_self_eq_true, goG_undef, Bool.not_true, Bool.not_false, stP_aggL, tm, t3, t4, t8, t22, t24, t26, t27, hlt', b3r, iN, lN, iL, lL, wz, gt_iff_lt, hpi, hp, hpd, he, hw]
              have e3 := posTo_s c i
              rw [hpi, hpd] at e3
              refine ⟨⟨i + 1, by omega, ?_⟩, by simp [intOf]; omega⟩
              simp [e3]
            | true =>
              try simp (config := {implicitDefEqProofs := false, maxDischargeDepth := 20}) (disch := first | omega | (simp only [lenE]; done) | (simp only [lenE]; omega) | rfl | (simp only [lenE, markR_len]; done) | (simp only [lenE, markR_len]; omega)) only [runE, mapE, listE, initT_5, initT_6, initT_7, initT_8, resV, oneV, binA, unA, reduceCtorEq, Nat.reduceEqDiff, Nat.reduceAdd, Nat.reduceLT, Nat.reduceLeDiff, Nat.reduceMul, Nat.reduceSub, ↓reduceIte, decide_true, decide_false, Bool.true_eq_false, Bool.false_eq_true, Bool.not_true, Bool.not_false, if_true, if_false, and_true, true_and, memE, celE, w64, Nat.zero_add, Nat.add_zero, Nat.mul_one, putL, and_self, ldn, Bool.and_self, Bool.and_true, Bool.true_and, Bool.and_false, Bool.false_and, Bool.or_false, Bool.false_or, ext_2_0, ext_2_1, bne_self_eq_false, beq_self_eq_true, goG_undef, Bool.not_true, Bool.not_false, stP_aggL, tm, t3, t4, t8, t22, t24, t26, t27, hlt', b3r, iN, lN, iL, lL, wz, gt_iff_lt, hpi, hp, hpd, he, hw]
              refine rcallH_rc (vHas_rc _ _ hs ((i : Int) + 1) hH) ?_
              rintro r new ⟨rfl, rfl⟩
              rw [List.append_nil, hm]
              try simp (config := {implicitDefEqProofs := false, maxDischargeDepth := 20}) (disch := first | omega | (simp only [lenE]; done) | (simp only [lenE]; omega) | rfl | (simp only [lenE, markR_len]; done) | (simp only [lenE, markR_len]; omega)) only [runE, mapE, listE, initT_5, initT_6, initT_7, initT_8, resV, oneV, binA, unA, reduceCtorEq, Nat.reduceEqDiff, Nat.reduceAdd, Nat.reduceLT, Nat.reduceLeDiff, Nat.reduceMul, Nat.reduceSub, ↓reduceIte, decide_true, decide_false, Bool.true_eq_false, Bool.false_eq_true, Bool.not_true, Bool.not_false, if_true, if_false, and_true, true_and, memE, celE, w64, Nat.zero_add, Nat.add_zero, Nat.mul_one, putL, and_self, ldn, Bool.and_self, Bool.and_true, Bool.true_and, Bool.and_false, Bool.false_and, Bool.or_false, Bool.false_or, ext_2_0, ext_2_1, bne_self_eq_false, beq_self_eq_true, goG_undef, Bool.not_true, Bool.not_false, stP_aggL, tm, t3, t4, t8, t22, t24, t26, t27, hlt', b3r, iN, lN, iL, lL, wz, gt_iff_lt, hpi, hp, hpd, he, hw]
              have e3 := posTo_s c i
              rw [hpi, hpd] at e3
              refine ⟨⟨i + 1, by omega, ?_⟩, by simp [intOf]; omega⟩
              simp [e3]
          | true =>
            rw [he, hpd] at hm
            try simp (config := {implicitDefEqProofs := false, maxDischargeDepth := 20}) (disch := first | omega | (simp only [lenE]; done) | (simp only [lenE]; omega) | rfl | (simp only [lenE, markR_len]; done) | (simp only [lenE, markR_len]; omega)) only [runE, mapE, listE, initT_5, initT_6, initT_7, initT_8, resV, oneV, binA, unA, reduceCtorEq, Nat.reduceEqDiff, Nat.reduceAdd, Nat.reduceLT, Nat.reduceLeDiff, Nat.reduceMul, Nat.reduceSub, ↓reduceIte, decide_true, decide_false, Bool.true_eq_false, Bool.false_eq_true, Bool.not_true, Bool.not_false, if_true, if_false, and_true, true_and, memE, celE, w64, Nat.zero_add, Nat.add_zero, Nat.mul_one, putL, and_self, ldn, Bool.and_self, Bool.and_true, Bool.true_and, Bool.and_false, Bool.false_and, Bool.or_false, Bool.false_or, ext_2_0, ext_2_1, bne_self_eq_false, beq_self_eq_true, goG_undef, Bool.not_true, Bool.not_false, stP_aggL, tm, t3, t4, t8, t22, t24, t26, t27, hlt', b3r, iN, lN, iL, lL, wz, gt_iff_lt, hpi, hp, hpd, he]
            refine rcallH_rc (vHas_rc _ _ hs ((i : Int) + 1) hH) ?_
            rintro r new ⟨rfl, rfl⟩
            rw [List.append_nil, hm]
            cases hw : wv with
            | false =>
              try simp (config := {implicitDefEqProofs := false, maxDischargeDepth := 20}) (disch := first | omega | (simp only [lenE]; done) | (simp only [lenE]; omega) | rfl | (simp only [lenE, markR_len]; done) | (simp only [lenE, markR_len]; omega)) only [runE, mapE, listE, initT_5, initT_6, initT_7, initT_8, resV, oneV, binA, unA, reduceCtorEq, Nat.reduceEqDiff, Nat.reduceAdd, Nat.reduceLT, Nat.reduceLeDiff, Nat.reduceMul, Nat.reduceSub, ↓reduceIte, decide_true, decide_false, Bool.true_eq_false, Bool.false_eq_true, Bool.not_true, Bool.not_false, if_true, if_false, and_true, true_and, memE, celE, w64, Nat.zero_add, Nat.add_zero, Nat.mul_one, putL, and_self, ldn, Bool.and_self, Bool.and_true, Bool.true_and, Bool.and_false, Bool.false_and, Bool.or_false, Bool.false_or, ext_2_0, ext_2_1, bne_self_eq_false, beq_self_eq_true, goG_undef, Bool.not_true, Bool.not_false, stP_aggL, tm, t3, t4, t8, t22, t24, t26, t27, hlt', b3r, iN, lN, iL, lL, wz, gt_iff_lt, hpi, hp, hpd, he, hw]
              have e3 := posTo_s c i
              rw [hpi, hpd] at e3
              refine ⟨⟨i + 1, by omega, ?_⟩, by simp [intOf]; omega⟩
              simp [e3]
            | true =>
              try simp (config := {implicitDefEqProofs := false, maxDischargeDepth := 20}) (disch := first | omega | (simp only [lenE]; done) | (simp only [lenE]; omega) | rfl | (simp only [lenE, markR_len]; done) | (simp only [lenE, markR_len]; omega)) only [runE, mapE, listE, initT_5, initT_6, initT_7, initT_8, resV, oneV, binA, unA, reduceCtorEq, Nat.reduceEqDiff, Nat.reduceAdd, Nat.reduceLT, Nat.reduceLeDiff, Nat.reduceMul, Nat.reduceSub, ↓reduceIte, decide_true, decide_false, Bool.true_eq_false, Bool.false_eq_true, Bool.not_true, Bool.not_false, if_true, if_false, and_true, true_and, memE, celE, w64, Nat.zero_add, Nat.add_zero, Nat.mul_one, putL, and_self, ldn, Bool.and_self, Bool.and_true, Bool.true_and, Bool.and_false, Bool.false_and, Bool.or_false, Bool.false_or, ext_2_0, ext_2_1, bne_self_eq_false, beq_self_eq_true, goG_undef, Bool.not_true, Bool.not_false, stP_aggL, tm, t3, t4, t8, t22, t24, t26, t27, hlt', b3r, iN, lN, iL, lL, wz, gt_iff_lt, hpi, hp, hpd, he, hw]
              refine rcallH_rc (vHas_rc _ _ hs ((i : Int) + 1) hH) ?_
              rintro r new ⟨rfl, rfl⟩
              rw [List.append_nil, hm]
              try simp (config := {implicitDefEqProofs := false, maxDischargeDepth := 20}) (disch := first | omega | (simp only [lenE]; done) | (simp only [lenE]; omega) | rfl | (simp only [lenE, markR_len]; done) | (simp only [lenE, markR_len]; omega)) only [runE, mapE, listE, initT_5, initT_6, initT_7, initT_8, resV, oneV, binA, unA, reduceCtorEq, Nat.reduceEqDiff, Nat.reduceAdd, Nat.reduceLT, Nat.reduceLeDiff, Nat.reduceMul, Nat.reduceSub, ↓reduceIte, decide_true, decide_false, Bool.true_eq_false, Bool.false_eq_true, Bool.not_true, Bool.not_false, if_true, if_false, and_true, true_and, memE, celE, w64, Nat.zero_add, Nat.add_zero, Nat.mul_one, putL, and_self, ldn, Bool.and_self, Bool.and_true, Bool.true_and, Bool.and_false, Bool.false_and, Bool.or_false, Bool.false_or, ext_2_0, ext_2_1, bne_self_eq_false, beq_self_eq_true, goG_undef, Bool.not_true, Bool.not_false, stP_aggL, tm, t3, t4, t8, t22, t24, t26, t27, hlt', b3r, iN, lN, iL, lL, wz, gt_iff_lt, hpi, hp, hpd, he, hw]
              have e3 := posTo_s c i
              rw [hpi, hpd] at e3
              refine ⟨⟨i + 1, by omega, ?_⟩, by simp [intOf]; omega⟩
              simp [e3]
    · have hlt' : ¬ ((i : Int) + 1 ≤ (ls.length : Int)) := by omega
      have ei : i = c.need.length := by omega
      subst ei
      try simp (config := {implicitDefEqProofs := false, maxDischargeDepth := 20}) (disch := first | omega | (simp only [lenE]; done) | (simp only [lenE]; omega) | rfl | (simp only [lenE, markR_len]; done) | (simp only [lenE, markR_len]; omega)) only [runE, mapE, listE, initT_5, initT_6, initT_7, initT_8, resV, oneV, binA, unA, reduceCtorEq, Nat.reduceEqDiff, Nat.reduceAdd, Nat.reduceLT, Nat.reduceLeDiff, Nat.reduceMul, Nat.reduceSub, ↓reduceIte, decide_true, decide_false, Bool.true_eq_false, Bool.false_eq_true, Bool.not_true, Bool.not_false, if_true, if_false, and_true, true_and, memE, celE, w64, Nat.zero_add, Nat.add_zero, Nat.mul_one, putL, and_self, ldn, Bool.and_self, Bool.and_true, Bool.true_and, Bool.and_false, Bool.false_and, Bool.or_false, Bool.false_or, ext_2_0, ext_2_1, bne_self_eq_false, beq_self_eq_true, goG_undef, Bool.not_true, Bool.not_false, stP_aggL, tm, t3, t4, t8, t22, t24, t26, t27, hlt']
      refine loop_inv mixed (fun s => ∃ h : Nat, 1 ≤ h ∧ (h ≤ c.need.length ∨ h = 1) ∧ s.m = N13 ∧ s.t 8 = .slice (some ⟨dR3, 0, none⟩) ls.length fR3 ∧ s.t 22 = .bool wv ∧ s.t 26 = .bool (posTo c c.need.length) ∧ s.t 28 = .int .i64 (h : Int)) (fun s => c.need.length - (intOf (s.t 28)).toNat) ⟨1, by omega, .inr rfl, by first | rfl | exact tm, by first | rfl | exact t8, by first | rfl | exact t22, by first | rfl | exact t26, rfl⟩ ?_
      clear tm t3 t4 t8 t22 t24 t26 t27
      rintro s ⟨h, h1, hh, tm, t8, t22, t26, t28⟩
      cases hw : wv with
      | false => simp (config := {implicitDefEqProofs := false, maxDischargeDepth := 20}) (disch := first | omega | (simp only [lenE]; done) | (simp only [lenE]; omega) | rfl | (simp only [lenE, markR_len]; done) | (simp only [lenE, markR_len]; omega)) only [runE, mapE, listE, initT_5, initT_6, initT_7, initT_8, resV, oneV, binA, unA, reduceCtorEq, Nat.reduceEqDiff, Nat.reduceAdd, Nat.reduceLT, Nat.reduceLeDiff, Nat.reduceMul, Nat.reduceSub, ↓reduceIte, decide_true, decide_false, Bool.true_eq_false, Bool.false_eq_true, Bool.not_true, Bool.not_false, if_true, if_false, and_true, true_and, memE, celE, w64, Nat.zero_add, Nat.add_zero, Nat.mul_one, putL, and_self, ldn, Bool.and_self, Bool.and_true, Bool.true_and, Bool.and_false, Bool.false_and, Bool.or_false, Bool.false_or, ext_2_0, ext_2_1, bne_self_eq_false, beq_self_eq_true, goG_undef, Bool.not_true, Bool.not_false, stP_aggL, tm, t8, t22, t26, t28, hw]
      | true =>
        cases hpn : posTo c c.need.length with
        | false => simp (config := {implicitDefEqProofs := false, maxDischargeDepth := 20}) (disch := first | omega | (simp only [lenE]; done) | (simp only [lenE]; omega) | rfl | (simp only [lenE, markR_len]; done) | (simp only [lenE, markR_len]; omega)) only [runE, mapE, listE, initT_5, initT_6, initT_7, initT_8, resV, oneV, binA, unA, reduceCtorEq, Nat.reduceEqDiff, Nat.reduceAdd, Nat.reduceLT, Nat.reduceLeDiff, Nat.reduceMul, Nat.reduceSub, ↓reduceIte, decide_true, decide_false, Bool.true_eq_false, Bool.false_eq_true, Bool.not_true, Bool.not_false, if_true, if_false, and_true, true_and, memE, celE, w64, Nat.zero_add, Nat.add_zero, Nat.mul_one, putL, and_self, ldn, Bool.and_self, Bool.and_true, Bool.true_and, Bool.and_false, Bool.false_and, Bool.or_false, Bool.false_or, ext_2_0, ext_2_1, bne_self_eq_false, beq_self_eq_true, goG_undef, Bool.not_true, Bool.not_false, stP_aggL, tm, t8, t22, t26, t28, hw, hpn]
        | true =>
          by_cases hln : h < c.need.length
          · have hln' : (h : Int) < (ls.length : Int) := by omega
            have am : (h : Int) - 1 = ((h - 1 : Nat) : Int) := by omega
            have az : IntKind.i64.wrap ((h : Int) - 1) = ((h - 1 : Nat) : Int) := by rw [am]; exact IntWalk.i64_in _ ⟨by omega, by omega⟩
            have i1 := hL.at_ h (by omega)
            have l1 := hL.ld h (by omega)
            have i2 := hL.at_ (h - 1) (by omega)
            have l2 := hL.ld (h - 1) (by omega)
            have ri := f.rise (hwv.symm.trans hw) (posTo_all _ hpn) (h - 1) (by omega)
            rw [show h - 1 + 1 = h by omega] at ri
            have ri' : ¬ (ls.getD h 0 < ls.getD (h - 1) 0) := by omega
            simp (config := {implicitDefEqProofs := false, maxDischargeDepth := 20}) (disch := first | omega | (simp only [lenE]; done) | (simp only [lenE]; omega) | rfl | (simp only [lenE, markR_len]; done) | (simp only [lenE, markR_len]; omega)) only [runE, mapE, listE, initT_5, initT_6, initT_7, initT_8, resV, oneV, binA, unA, reduceCtorEq, Nat.reduceEqDiff, Nat.reduceAdd, Nat.reduceLT, Nat.reduceLeDiff, Nat.reduceMul, Nat.reduceSub, ↓reduceIte, decide_true, decide_false, Bool.true_eq_false, Bool.false_eq_true, Bool.not_true, Bool.not_false, if_true, if_false, and_true, true_and, memE, celE, w64, Nat.zero_add, Nat.add_zero, Nat.mul_one, putL, and_self, ldn, Bool.and_self, Bool.and_true, Bool.true_and, Bool.and_false, Bool.false_and, Bool.or_false, Bool.false_or, ext_2_0, ext_2_1, bne_self_eq_false, beq_self_eq_true, goG_undef, Bool.not_true, Bool.not_false, stP_aggL, tm, t8, t22, t26, t28, hw, hpn, hln', az, i1, l1, i2, l2, ri']
            exact ⟨⟨h + 1, by omega, .inl (by omega), by simp⟩, by simp [intOf]; omega⟩
          · have hln' : ¬ ((h : Int) < (ls.length : Int)) := by omega
            simp (config := {implicitDefEqProofs := false, maxDischargeDepth := 20}) (disch := first | omega | (simp only [lenE]; done) | (simp only [lenE]; omega) | rfl | (simp only [lenE, markR_len]; done) | (simp only [lenE, markR_len]; omega)) only [runE, mapE, listE, initT_5, initT_6, initT_7, initT_8, resV, oneV, binA, unA, reduceCtorEq, Nat.reduceEqDiff, Nat.reduceAdd, Nat.reduceLT, Nat.reduceLeDiff, Nat.reduceMul, Nat.reduceSub, ↓reduceIte, decide_true, decide_false, Bool.true_eq_false, Bool.false_eq_true, Bool.not_true, Bool.not_false, if_true, if_false, and_true, true_and, memE, celE, w64, Nat.zero_add, Nat.add_zero, Nat.mul_one, putL, and_self, ldn, Bool.and_self, Bool.and_true, Bool.true_and, Bool.and_false, Bool.false_and, Bool.or_false, Bool.false_or, ext_2_0, ext_2_1, bne_self_eq_false, beq_self_eq_true, goG_undef, Bool.not_true, Bool.not_false, stP_aggL, tm, t8, t22, t26, t28, hw, hpn, hln']
end Go.Proofs.Ytibkaclkaigflaa.Ab
end
section
namespace Go.Proofs.Ytibkaclkaigflaa.Ab
open Go Go.RowKit
set_option linter.unusedVariables false
theorem ws_word : ∀ (p r : List Char), p.all (fun c => c != ' ') = true → wordsSigns (p ++ ' ' :: r) = p :: wordsSigns r
  | [], r, _ => by rw [List.nil_append, wordsSigns]
  | c :: p, r, h => by
    rw [List.all_cons, Bool.and_eq_true] at h
    have hc : c ≠ ' ' := by simpa using h.1
    rw [List.cons_append, wordsSigns, ws_word p r h.2]
    intro e; exact hc e
def sumW : List Char := ['c', 'e', '9', '8', 'f', '4', 'a', 'a', '8', '8', '8', '3', '2', 'b', 'a', '9', '7', '5', '8', 'b', '8', '4', '9', 'b', '8', '3', 'a', '2', 'a', 'b', 'e', 'f', '1', 'e', '0', '6', '2', 'f', '9', '3', '3', '4', 'b', '8', 'd', '7', 'd', '9', 'd', '7', 'b', 'e', '1', '9', '7', 'a', '4', 'c', 'c', '2', 'c', 'a', '8', '4']
def restW : List Char := ['a', 't', ' ', 'l', 'o', 'o', 'p', '.', 'e', 'x', 'a', 'm', 'p', 'l', 'e', '/', 'g', '0', '1', '1', '1', '1', '/', 'l', 'a', 'w', 's', '.', 'F', 'n', 'H', 'o', 'r', 'i', 'z', 'o', 'n', 's']
set_option maxRecDepth 100000 in
theorem head_is : Try.prog.initOrder = String.ofList (['h', 'a', 'r', 'n', 'e', 's', 's'] ++ ' ' :: (sumW ++ ' ' :: (['c', 'u', 't'] ++ ' ' :: restW))) := by kernel_rfl
set_option maxRecDepth 100000 in
theorem sum_ok : isSumSigns sumW = true := by kernel_rfl
theorem head_words : behindMainWord (wordsSigns Try.prog.initOrder.toList) = ['c', 'u', 't'] :: wordsSigns restW := by
  rw [head_is, String.toList_ofList, ws_word _ _ (by decide), ws_word _ _ (by decide), ws_word _ _ (by decide)]
  simp only [behindMainWord, sum_ok, Bool.and_true]
  rfl
set_option maxRecDepth 100000 in
theorem strip_cut (X : List (List Char)) : stripLifts liftWords (['c', 'u', 't'] :: X) = ([], ['c', 'u', 't'] :: X) := by kernel_rfl
theorem lifts_gen (P : Program) (X : List (List Char)) (h : behindMainWord (wordsSigns P.initOrder.toList) = ['c', 'u', 't'] :: X) : P.headLifts = [] := by
  unfold Program.headLifts
  rw [h, strip_cut]
  rfl
theorem enters_gen (P : Program) (X : List (List Char)) (h : behindMainWord (wordsSigns P.initOrder.toList) = ['c', 'u', 't'] :: X) (h1 : P.laysLater = false) (h2 : P.bearsReflect = false) (h3 : P.doorFits [] = true) : P.mayEnter = true := by
  unfold Program.mayEnter
  rw [h]
  simp only [strip_cut, h1, h2, h3]
  rfl
theorem finals_gen (P : Program) (X : List (List Char)) (h : behindMainWord (wordsSigns P.initOrder.toList) = ['c', 'u', 't'] :: X) : P.liftsFinal = false := by
  unfold Program.liftsFinal
  rw [lifts_gen P X h, h]
  rfl
theorem make_gen (P : Program) (X : List (List Char)) (h : behindMainWord (wordsSigns P.initOrder.toList) = ['c', 'u', 't'] :: X) : P.make = some .cut := by
  unfold Program.make
  rw [h]
  rfl
set_option maxRecDepth 100000 in
theorem enters : Try.prog.mayEnter = true := enters_gen _ _ head_words (by kernel_rfl) (by kernel_rfl) (by kernel_rfl)
theorem no_finals : Try.prog.liftsFinal = false := finals_gen _ _ head_words
theorem makes : Try.prog.make = some .cut := make_gen _ _ head_words
end Go.Proofs.Ytibkaclkaigflaa.Ab
end
