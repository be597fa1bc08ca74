/- impl.PlanCost. -/
import Derived.Test.YtgomgpfofniloaaAbCost
namespace Go.Proofs.Ytgomgpfofniloaa.Ab
open Go Go.RowKit
set_option linter.unusedVariables false
set_option linter.unusedSimpArgs false

theorem parts_sum (k : Cs) (plan : List Int) : costA k plan = partA cSet k plan + partA cUnit k plan + partA cHold k plan := by
  cases hg : two k plan with
  | false => rw [partA_no _ hg, partA_no _ hg, partA_no _ hg, costA_no hg]; rfl
  | true => rw [partA_yes _ hg, partA_yes _ hg, partA_yes _ hg, costA_yes hg, costOf_def]
theorem parts_bound (k : Cs) (plan : List Int) : (0 ≤ partA cSet k plan ∧ partA cSet k plan ≤ 1000) ∧ (0 ≤ partA cUnit k plan ∧ partA cUnit k plan ≤ 20000) ∧ (-20000 ≤ partA cHold k plan ∧ partA cHold k plan ≤ 200000) := by
  cases hg : two k plan with
  | false => rw [partA_no _ hg, partA_no _ hg, partA_no _ hg]; omega
  | true =>
    obtain ⟨b1, b2, b3⟩ := two_bounds hg
    have h8 := b1.n8
    rw [partA_yes _ hg, partA_yes _ hg, partA_yes _ hg]
    exact cost_bounds b1 b3 plan.length (by omega)
theorem planCost_gen (m : Mem) (v u : Value) (k : Cs) (a b c : Int) (ok : Bool) (h : CaseA m v k)
    (hc : ∀ m' v' u', CaseA m' v' k → u' = u → (∃ x, m' = roM m ++ [x]) → RC Try.prog 123 [v', u'] m' (AnsV (.tuple #[.int .i64 a, .int .i64 b, .int .i64 c, .bool ok])))
    (ha : 0 ≤ a ∧ a ≤ 1000) (hb : 0 ≤ b ∧ b ≤ 20000) (hd : -20000 ≤ c ∧ c ≤ 200000) :
    RC Try.prog 96 [v, u] m (AnsV (.tuple #[.int .i64 (a + b + c), .bool ok])) := by
  refine rc_of_run mixed ok_impl_PlanCost (by simp) (go_start _ _ _ ?_)
  obtain ⟨v1, v2, v3, v4, rfl, h1, h2, h3, h4⟩ := h.ro.ok
  simp (config := {implicitDefEqProofs := false, maxDischargeDepth := 20}) (disch := first | omega | (simp only [List.length_append, List.length_cons, List.length_nil, roM_len]; done) | (simp only [List.length_append, List.length_cons, List.length_nil, roM_len]; omega) | (simp only [List.length_append, List.length_cons, List.length_nil, roM_len, markR_len]; done) | (simp only [List.length_append, List.length_cons, List.length_nil, roM_len, markR_len]; omega) | rfl) only [goC_skip, goC_reg, goC_seq, goC_cond, goC_block, goC_loop, goC_exit, goC_ret, goB_true, goB_false, goX_seq_normal, goX_seq_exit, goX_seq_ret, goX_block_normal, goX_block_ret, goX_block_exit, goX_done, goR_nil, goV_some, goA_some, goS_some, goG_run, goG_tf, goG_ft, goG_no, goR_guard, callV_func, rcallV_func, pickA_true, pickA_false, beqA_eq, beqA_ne, convA_int, stP_int, stP_bool, stP_sl, stP_fn, seqQ_normal, seqQ_exit, seqQ_ret, bodyQ_ret, bodyQ_normal, row_mv, row_cpy, row_mmx, mmA_min, mmA_max, row_mkf, row_pick, row_beq, row_conv, row_bld, row_box, row_alc, row_bsl, row_mks, row_st, row_app, row_call, row_rcall, row_bin, row_un, row_ld, row_fld, row_fad, row_iad, row_iada, row_idxs, row_idxa, row_slc, row_slcs, row_len, row_lens, row_ext, row_nilc, ev_tmp, ev_const, ev_func, put_t, put_t', put_m, putT_t, putT_t', putT_m, init_t, init_m, initT_0, initT_1, initT_2, initT_3, initT_4, empty_list, arr_list, resV, oneV, binA, unA, lenA_sl, reduceCtorEq, Nat.reduceEqDiff, Nat.reduceAdd, Nat.reduceLT, Nat.reduceLeDiff, Nat.reduceMul, Nat.reduceSub, ↓reduceIte, decide_true, decide_false, Bool.true_eq_false, Bool.false_eq_true, Bool.not_true, Bool.not_false, if_true, if_false, List.map_cons, List.map_nil, List.cons_append, List.nil_append, List.append_nil, and_true, true_and, w64, fad1, ld1, ldn, aggO_some, consO_some, rdn_0, rdn_1, rdn_2, rdn_3, rdn_4, rdn_5, rdn_6, rdn_7, rdn_8, rdc_lastH, rdc_left, stA_left, stA_lastH, stP_aggL, Option.map_some, cells_agg, cells_sl, cells_int, cells_bool, cells_ptr, cells_str, cells_fn, List.getElem?_cons_zero, List.getElem?_cons_succ, List.length_append, List.length_cons, List.length_nil, List.length_map, roM_len, Nat.zero_add, Nat.add_zero, Nat.mul_one, List.set_cons_zero, List.set_cons_succ, onesB_sl, onesB_int, onesB_bool, onesB_str, onesB_ptr, onesB_fn, onesB_nil, onesB_ints, putL, and_self, c_impl_PlanCost, r_impl_PlanCost]
  refine callH_rc (hc _ _ u ⟨_, _, _, _, rfl, h1.ext _, h2.ext _, h3.ext _, h4.ext _⟩ rfl ⟨_, rfl⟩) ?_
  rintro r new ⟨rfl, nr1⟩
  simp (config := {implicitDefEqProofs := false, maxDischargeDepth := 20}) (disch := first | omega | (simp only [List.length_append, List.length_cons, List.length_nil, roM_len]; done) | (simp only [List.length_append, List.length_cons, List.length_nil, roM_len]; omega) | (simp only [List.length_append, List.length_cons, List.length_nil, roM_len, markR_len]; done) | (simp only [List.length_append, List.length_cons, List.length_nil, roM_len, markR_len]; omega) | rfl) only [goC_skip, goC_reg, goC_seq, goC_cond, goC_block, goC_loop, goC_exit, goC_ret, goB_true, goB_false, goX_seq_normal, goX_seq_exit, goX_seq_ret, goX_block_normal, goX_block_ret, goX_block_exit, goX_done, goR_nil, goV_some, goA_some, goS_some, goG_run, goG_tf, goG_ft, goG_no, goR_guard, callV_func, rcallV_func, pickA_true, pickA_false, beqA_eq, beqA_ne, convA_int, stP_int, stP_bool, stP_sl, stP_fn, seqQ_normal, seqQ_exit, seqQ_ret, bodyQ_ret, bodyQ_normal, row_mv, row_cpy, row_mmx, mmA_min, mmA_max, row_mkf, row_pick, row_beq, row_conv, row_bld, row_box, row_alc, row_bsl, row_mks, row_st, row_app, row_call, row_rcall, row_bin, row_un, row_ld, row_fld, row_fad, row_iad, row_iada, row_idxs, row_idxa, row_slc, row_slcs, row_len, row_lens, row_ext, row_nilc, ev_tmp, ev_const, ev_func, put_t, put_t', put_m, putT_t, putT_t', putT_m, init_t, init_m, initT_0, initT_1, initT_2, initT_3, initT_4, empty_list, arr_list, resV, oneV, binA, unA, lenA_sl, reduceCtorEq, Nat.reduceEqDiff, Nat.reduceAdd, Nat.reduceLT, Nat.reduceLeDiff, Nat.reduceMul, Nat.reduceSub, ↓reduceIte, decide_true, decide_false, Bool.true_eq_false, Bool.false_eq_true, Bool.not_true, Bool.not_false, if_true, if_false, List.map_cons, List.map_nil, List.cons_append, List.nil_append, List.append_nil, and_true, true_and, w64, fad1, ld1, ldn, aggO_some, consO_some, rdn_0, rdn_1, rdn_2, rdn_3, rdn_4, rdn_5, rdn_6, rdn_7, rdn_8, rdc_lastH, rdc_left, stA_left, stA_lastH, stP_aggL, Option.map_some, cells_agg, cells_sl, cells_int, cells_bool, cells_ptr, cells_str, cells_fn, List.getElem?_cons_zero, List.getElem?_cons_succ, List.length_append, List.length_cons, List.length_nil, List.length_map, roM_len, Nat.zero_add, Nat.add_zero, Nat.mul_one, List.set_cons_zero, List.set_cons_succ, onesB_sl, onesB_int, onesB_bool, onesB_str, onesB_ptr, onesB_fn, onesB_nil, onesB_ints, putL, and_self, ext_4_0, ext_4_1, ext_4_2, ext_4_3]
  exact ext_ansV (((Ext.refl m).one _ _).app nr1) rfl
theorem implPlanCost_rc (m : Mem) (v u : Value) (k : Cs) (plan : List Int) (h : CaseA m v k) (h' : IntsA m u plan) :
    RC Try.prog 96 [v, u] m (AnsV (.tuple #[.int .i64 (costA k plan), .bool (two k plan)])) := by
  obtain ⟨ha, hb, hd⟩ := parts_bound k plan
  rw [parts_sum]
  exact planCost_gen m v u k _ _ _ _ h (fun m' v' u' hv hu hm => by
    obtain ⟨x, rfl⟩ := hm
    subst hu
    exact implCostParts_rc _ _ _ k plan hv (h'.ro.ext _)) ha hb hd
end Go.Proofs.Ytgomgpfofniloaa.Ab
