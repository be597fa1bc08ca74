/- What the law needs of the texts that it rests on. -/
import Derived.Test.YtckpfgkgigicpaaAb2
import Derived.Test.YtckpfgkgigicpaaProg
import Derived.WalkKit
import Derived.Lib.Hide
import Derived.Below
import Derived.Laws.OwnMore
import Derived.Deep.Draws
import Derived.Test.YtckpfgkgigicpaaRows
import Derived.ProofKit
import Derived.SliceStrings
import Derived.OpenShut
import Derived.ChangeSlices
import Derived.Deep.Slices
import Derived.JoinedOf
section
namespace Go.Proofs.Ytckpfgkgigicpaa.Ab
open Go Go.RowKit
theorem initT_5 (x y z u v a : Value) (xs : List Value) : initT (x :: y :: z :: u :: v :: a :: xs) 5 = a := rfl
theorem initT_6 (x y z u v a b : Value) (xs : List Value) : initT (x :: y :: z :: u :: v :: a :: b :: xs) 6 = b := rfl
theorem initT_7 (x y z u v a b c : Value) (xs : List Value) : initT (x :: y :: z :: u :: v :: a :: b :: c :: xs) 7 = c := rfl
theorem initT_8 (x y z u v a b c d : Value) (xs : List Value) : initT (x :: y :: z :: u :: v :: a :: b :: c :: d :: xs) 8 = d := rfl
theorem runE : type_of% (And.intro (And.intro (And.intro (And.intro (And.intro (And.intro (And.intro @goC_skip @goC_reg) (And.intro @goC_seq (And.intro @goC_cond @goC_block))) (And.intro (And.intro @goC_loop (And.intro @goC_exit @goC_ret)) (And.intro @goB_true (And.intro @goB_false @goX_seq_normal)))) (And.intro (And.intro (And.intro @goX_seq_exit (And.intro @goX_seq_ret @goX_block_normal)) (And.intro @goX_block_ret (And.intro @goX_block_exit @goX_done))) (And.intro (And.intro @goR_nil (And.intro @goV_some @goA_some)) (And.intro @goS_some (And.intro @goG_run @goG_tf))))) (And.intro (And.intro (And.intro (And.intro @goG_ft (And.intro @goG_no @goR_guard)) (And.intro @callV_func (And.intro @rcallV_func @pickA_true))) (And.intro (And.intro @pickA_false (And.intro @beqA_eq @beqA_ne)) (And.intro @convA_int (And.intro @stP_int @stP_bool)))) (And.intro (And.intro (And.intro @stP_sl (And.intro @stP_fn @seqQ_normal)) (And.intro @seqQ_exit (And.intro @seqQ_ret @bodyQ_ret))) (And.intro (And.intro @bodyQ_normal (And.intro @row_mv @row_cpy)) (And.intro @row_mmx (And.intro @mmA_min @mmA_max)))))) (And.intro (And.intro (And.intro (And.intro (And.intro @row_mkf @row_pick) (And.intro @row_beq (And.intro @row_conv @row_bld))) (And.intro (And.intro @row_box (And.intro @row_alc @row_bsl)) (And.intro @row_mks (And.intro @row_st @row_app)))) (And.intro (And.intro (And.intro @row_call (And.intro @row_rcall @row_bin)) (And.intro @row_un (And.intro @row_ld @row_fld))) (And.intro (And.intro @row_fad (And.intro @row_iad @row_iada)) (And.intro @row_idxs (And.intro @row_idxa @row_slc))))) (And.intro (And.intro (And.intro (And.intro (And.intro @row_slcs @row_slcp) (And.intro @row_len @row_lens)) (And.intro @row_ext (And.intro @row_nilc @ev_tmp))) (And.intro (And.intro @ev_const (And.intro @ev_func @put_t)) (And.intro @put_t' (And.intro @put_m @putT_t)))) (And.intro (And.intro (And.intro @putT_t' (And.intro @putT_m @init_t)) (And.intro @init_m (And.intro @initT_0 @initT_1))) (And.intro (And.intro @initT_2 (And.intro @initT_3 @initT_4)) (And.intro @empty_list (And.intro @arr_list @lenA_sl))))))) (And.intro (And.intro (And.intro @row_mif @row_sln) (And.intro @row_ptn (And.intro @ptnA_nil @ptnA_some))) (And.intro @row_clr (And.intro @row_inv @invV_some)))) := (And.intro (And.intro (And.intro (And.intro (And.intro (And.intro (And.intro @goC_skip @goC_reg) (And.intro @goC_seq (And.intro @goC_cond @goC_block))) (And.intro (And.intro @goC_loop (And.intro @goC_exit @goC_ret)) (And.intro @goB_true (And.intro @goB_false @goX_seq_normal)))) (And.intro (And.intro (And.intro @goX_seq_exit (And.intro @goX_seq_ret @goX_block_normal)) (And.intro @goX_block_ret (And.intro @goX_block_exit @goX_done))) (And.intro (And.intro @goR_nil (And.intro @goV_some @goA_some)) (And.intro @goS_some (And.intro @goG_run @goG_tf))))) (And.intro (And.intro (And.intro (And.intro @goG_ft (And.intro @goG_no @goR_guard)) (And.intro @callV_func (And.intro @rcallV_func @pickA_true))) (And.intro (And.intro @pickA_false (And.intro @beqA_eq @beqA_ne)) (And.intro @convA_int (And.intro @stP_int @stP_bool)))) (And.intro (And.intro (And.intro @stP_sl (And.intro @stP_fn @seqQ_normal)) (And.intro @seqQ_exit (And.intro @seqQ_ret @bodyQ_ret))) (And.intro (And.intro @bodyQ_normal (And.intro @row_mv @row_cpy)) (And.intro @row_mmx (And.intro @mmA_min @mmA_max)))))) (And.intro (And.intro (And.intro (And.intro (And.intro @row_mkf @row_pick) (And.intro @row_beq (And.intro @row_conv @row_bld))) (And.intro (And.intro @row_box (And.intro @row_alc @row_bsl)) (And.intro @row_mks (And.intro @row_st @row_app)))) (And.intro (And.intro (And.intro @row_call (And.intro @row_rcall @row_bin)) (And.intro @row_un (And.intro @row_ld @row_fld))) (And.intro (And.intro @row_fad (And.intro @row_iad @row_iada)) (And.intro @row_idxs (And.intro @row_idxa @row_slc))))) (And.intro (And.intro (And.intro (And.intro (And.intro @row_slcs @row_slcp) (And.intro @row_len @row_lens)) (And.intro @row_ext (And.intro @row_nilc @ev_tmp))) (And.intro (And.intro @ev_const (And.intro @ev_func @put_t)) (And.intro @put_t' (And.intro @put_m @putT_t)))) (And.intro (And.intro (And.intro @putT_t' (And.intro @putT_m @init_t)) (And.intro @init_m (And.intro @initT_0 @initT_1))) (And.intro (And.intro @initT_2 (And.intro @initT_3 @initT_4)) (And.intro @empty_list (And.intro @arr_list @lenA_sl))))))) (And.intro (And.intro (And.intro @row_mif @row_sln) (And.intro @row_ptn (And.intro @ptnA_nil @ptnA_some))) (And.intro @row_clr (And.intro @row_inv @invV_some))))
theorem memE : type_of% (And.intro (And.intro (And.intro (And.intro (And.intro @fad1 @ld1) (And.intro @aggO_some @consO_some)) (And.intro (And.intro @rdn_0 @rdn_1) (And.intro @rdn_2 @rdn_3))) (And.intro (And.intro (And.intro @rdn_4 @rdn_5) (And.intro @rdn_6 @rdn_7)) (And.intro (And.intro @rdn_8 @rdc_lastH) (And.intro @rdc_left (And.intro @stA_left @stA_lastH))))) (And.intro (And.intro (And.intro (And.intro @stP_aggL @cells_agg) (And.intro @cells_sl @cells_int)) (And.intro (And.intro @cells_bool @cells_ptr) (And.intro @cells_str @cells_fn))) (And.intro (And.intro (And.intro @roM_len @onesB_sl) (And.intro @onesB_int @onesB_bool)) (And.intro (And.intro @onesB_str @onesB_ptr) (And.intro @onesB_fn (And.intro @onesB_nil @onesB_ints)))))) := (And.intro (And.intro (And.intro (And.intro (And.intro @fad1 @ld1) (And.intro @aggO_some @consO_some)) (And.intro (And.intro @rdn_0 @rdn_1) (And.intro @rdn_2 @rdn_3))) (And.intro (And.intro (And.intro @rdn_4 @rdn_5) (And.intro @rdn_6 @rdn_7)) (And.intro (And.intro @rdn_8 @rdc_lastH) (And.intro @rdc_left (And.intro @stA_left @stA_lastH))))) (And.intro (And.intro (And.intro (And.intro @stP_aggL @cells_agg) (And.intro @cells_sl @cells_int)) (And.intro (And.intro @cells_bool @cells_ptr) (And.intro @cells_str @cells_fn))) (And.intro (And.intro (And.intro @roM_len @onesB_sl) (And.intro @onesB_int @onesB_bool)) (And.intro (And.intro @onesB_str @onesB_ptr) (And.intro @onesB_fn (And.intro @onesB_nil @onesB_ints))))))
theorem listE : type_of% (And.intro (And.intro @List.map_cons.{0, 0} @List.map_nil.{0, 0}) (And.intro @List.cons_append.{0} (And.intro @List.nil_append.{0} @List.append_nil.{0}))) := (And.intro (And.intro @List.map_cons.{0, 0} @List.map_nil.{0, 0}) (And.intro @List.cons_append.{0} (And.intro @List.nil_append.{0} @List.append_nil.{0})))
theorem celE : type_of% (And.intro (And.intro (And.intro @Option.map_some.{0, 0} @List.getElem?_cons_zero.{0}) (And.intro @List.getElem?_cons_succ.{0} (And.intro @List.length_append.{0} @List.length_cons.{0}))) (And.intro (And.intro @List.length_nil.{0} @List.length_map.{0, 0}) (And.intro @List.length_set.{0} (And.intro @List.set_cons_zero.{0} @List.set_cons_succ.{0})))) := (And.intro (And.intro (And.intro @Option.map_some.{0, 0} @List.getElem?_cons_zero.{0}) (And.intro @List.getElem?_cons_succ.{0} (And.intro @List.length_append.{0} @List.length_cons.{0}))) (And.intro (And.intro @List.length_nil.{0} @List.length_map.{0, 0}) (And.intro @List.length_set.{0} (And.intro @List.set_cons_zero.{0} @List.set_cons_succ.{0}))))
theorem lenE : type_of% (And.intro (And.intro @List.length_append.{0} @List.length_cons.{0}) (And.intro @List.length_nil.{0} (And.intro @List.length_set.{0} @roM_len))) := (And.intro (And.intro @List.length_append.{0} @List.length_cons.{0}) (And.intro @List.length_nil.{0} (And.intro @List.length_set.{0} @roM_len)))
theorem mapE : type_of% (And.intro (And.intro (And.intro (And.intro (And.intro (And.intro @goC_both @row_aeq) @row_mkm) (And.intro @row_mup @row_lkp)) (And.intro (And.intro @stP_map @onesB_map) (And.intro @goC_range @rng_t2))) (And.intro (And.intro (And.intro @rng_t1 @rng_t0) (And.intro @rng_m @goC_scope)) (And.intro (And.intro @goC_goto @goC_label) (And.intro @goX_seq_goto (And.intro @goX_block_goto @goX_scope_normal))))) (And.intro (And.intro (And.intro (And.intro @goX_scope_ret @goX_scope_exit) (And.intro @goX_scope_goto @goJ_some)) (And.intro (And.intro @goJ_none @findA_seq) (And.intro @findA_label @findA_reg))) (And.intro (And.intro (And.intro @findA_skip @findA_cond) (And.intro @findA_block @findA_loop)) (And.intro (And.intro @findA_exit @findA_goto) (And.intro @findA_ret (And.intro @findS_some @findS_none)))))) := (And.intro (And.intro (And.intro (And.intro (And.intro (And.intro @goC_both @row_aeq) @row_mkm) (And.intro @row_mup @row_lkp)) (And.intro (And.intro @stP_map @onesB_map) (And.intro @goC_range @rng_t2))) (And.intro (And.intro (And.intro @rng_t1 @rng_t0) (And.intro @rng_m @goC_scope)) (And.intro (And.intro @goC_goto @goC_label) (And.intro @goX_seq_goto (And.intro @goX_block_goto @goX_scope_normal))))) (And.intro (And.intro (And.intro (And.intro @goX_scope_ret @goX_scope_exit) (And.intro @goX_scope_goto @goJ_some)) (And.intro (And.intro @goJ_none @findA_seq) (And.intro @findA_label @findA_reg))) (And.intro (And.intro (And.intro @findA_skip @findA_cond) (And.intro @findA_block @findA_loop)) (And.intro (And.intro @findA_exit @findA_goto) (And.intro @findA_ret (And.intro @findS_some @findS_none))))))
end Go.Proofs.Ytckpfgkgigicpaa.Ab
end
section
namespace Go.Proofs.Ytckpfgkgigicpaa.Ab
open Go Go.RowKit Go.Proofs
set_option maxRecDepth 100000
def c_laws_rBig : ACode := .seq (.reg [⟨(some 2), .mv (.const (.bool false)), none⟩])
 (.seq (.reg [⟨(some 3), .mv (.tmp 0), none⟩,
  ⟨(some 4), .len (.tmp 3), none⟩,
  ⟨(some 5), .bin .gtr (.tmp 4) (.const (.int .i64 65536)), none⟩,
  ⟨(some 2), .mv (.tmp 5), none⟩])
 (.ret))
def r_laws_rBig : List ARes := [.tmp 2]
theorem ok_laws_rBig : FnOk Try.prog 4 6 c_laws_rBig r_laws_rBig := ⟨⟨Try.f4, _, Try.func4, by kernel_rfl, rfl, rfl, by kernel_rfl, by kernel_rfl⟩⟩
def c_laws_rInts : ACode := .seq (.reg [⟨(some 4), .mv (.const (.bool false)), none⟩])
 (.seq (.seq (.reg [⟨(some 6), .mv (.tmp 0), none⟩,
  ⟨(some 7), .len (.tmp 6), none⟩,
  ⟨(some 8), .mv (.tmp 1), none⟩,
  ⟨(some 9), .len (.tmp 8), none⟩,
  ⟨(some 10), .bin .neq (.tmp 7) (.tmp 9), none⟩])
 (.cond (.tmp 10) (.seq (.reg [⟨(some 4), .mv (.const (.bool false)), none⟩])
 (.ret)) (.skip)))
 (.seq (.seq (.reg [⟨(some 5), .mv (.const (.int .i64 0)), none⟩])
 (.block 0 (.loop (.seq (.seq (.reg [⟨(some 11), .mv (.tmp 5), none⟩,
  ⟨(some 12), .mv (.tmp 0), none⟩,
  ⟨(some 13), .len (.tmp 12), none⟩,
  ⟨(some 14), .bin .lss (.tmp 11) (.tmp 13), none⟩])
 (.cond (.tmp 14) (.skip) (.exit 0)))
 (.seq (.block 1 (.seq (.reg [⟨(some 17), .mv (.tmp 0), none⟩,
  ⟨(some 18), .mv (.tmp 5), none⟩,
  ⟨(some 19), .iad 1 (.tmp 17) (.tmp 18), none⟩,
  ⟨(some 20), .ld none (.tmp 19), none⟩,
  ⟨(some 21), .mv (.tmp 1), none⟩,
  ⟨(some 22), .mv (.tmp 5), none⟩,
  ⟨(some 23), .iad 1 (.tmp 21) (.tmp 22), none⟩,
  ⟨(some 24), .ld none (.tmp 23), none⟩,
  ⟨(some 25), .bin .neq (.tmp 20) (.tmp 24), none⟩])
 (.cond (.tmp 25) (.seq (.reg [⟨(some 4), .mv (.const (.bool false)), none⟩])
 (.ret)) (.skip))))
 (.reg [⟨(some 15), .mv (.tmp 5), none⟩,
  ⟨(some 16), .bin .add (.tmp 15) (.const (.int .i64 1)), none⟩,
  ⟨(some 5), .mv (.tmp 16), none⟩]))))))
 (.seq (.reg [⟨(some 4), .mv (.const (.bool true)), none⟩])
 (.ret))))
def r_laws_rInts : List ARes := [.tmp 4]
theorem ok_laws_rInts : FnOk Try.prog 10 26 c_laws_rInts r_laws_rInts := ⟨⟨Try.f10, _, Try.func10, by kernel_rfl, rfl, rfl, by kernel_rfl, by kernel_rfl⟩⟩
def c_laws_rTable : ACode := .seq (.reg [⟨(some 4), .mv (.const (.bool false)), none⟩])
 (.seq (.seq (.reg [⟨(some 6), .mv (.tmp 0), none⟩,
  ⟨(some 7), .len (.tmp 6), none⟩,
  ⟨(some 8), .mv (.tmp 1), none⟩,
  ⟨(some 9), .len (.tmp 8), none⟩,
  ⟨(some 10), .bin .neq (.tmp 7) (.tmp 9), none⟩])
 (.cond (.tmp 10) (.seq (.reg [⟨(some 4), .mv (.const (.bool false)), none⟩])
 (.ret)) (.skip)))
 (.seq (.seq (.reg [⟨(some 5), .mv (.const (.int .i64 0)), none⟩])
 (.block 0 (.loop (.seq (.seq (.reg [⟨(some 11), .mv (.tmp 5), none⟩,
  ⟨(some 12), .mv (.tmp 0), none⟩,
  ⟨(some 13), .len (.tmp 12), none⟩,
  ⟨(some 14), .bin .lss (.tmp 11) (.tmp 13), none⟩])
 (.cond (.tmp 14) (.skip) (.exit 0)))
 (.seq (.block 1 (.seq (.reg [⟨(some 17), .mv (.tmp 0), none⟩,
  ⟨(some 18), .mv (.tmp 5), none⟩,
  ⟨(some 19), .iad 1 (.tmp 17) (.tmp 18), none⟩,
  ⟨(some 20), .ld none (.tmp 19), none⟩,
  ⟨(some 21), .mv (.tmp 1), none⟩,
  ⟨(some 22), .mv (.tmp 5), none⟩,
  ⟨(some 23), .iad 1 (.tmp 21) (.tmp 22), none⟩,
  ⟨(some 24), .ld none (.tmp 23), none⟩,
  ⟨(some 25), .rcall (.func 10) [(.tmp 20), (.tmp 24)], none⟩,
  ⟨(some 26), .un .not (.tmp 25), none⟩])
 (.cond (.tmp 26) (.seq (.reg [⟨(some 4), .mv (.const (.bool false)), none⟩])
 (.ret)) (.skip))))
 (.reg [⟨(some 15), .mv (.tmp 5), none⟩,
  ⟨(some 16), .bin .add (.tmp 15) (.const (.int .i64 1)), none⟩,
  ⟨(some 5), .mv (.tmp 16), none⟩]))))))
 (.seq (.reg [⟨(some 4), .mv (.const (.bool true)), none⟩])
 (.ret))))
def r_laws_rTable : List ARes := [.tmp 4]
theorem ok_laws_rTable : FnOk Try.prog 19 27 c_laws_rTable r_laws_rTable := ⟨⟨Try.f19, _, Try.func19, by kernel_rfl, rfl, rfl, by kernel_rfl, by kernel_rfl⟩⟩
def c_laws_rPairs : ACode := .seq (.reg [⟨(some 4), .mv (.const (.bool false)), none⟩])
 (.seq (.seq (.reg [⟨(some 6), .mv (.tmp 0), none⟩,
  ⟨(some 7), .len (.tmp 6), none⟩,
  ⟨(some 8), .mv (.tmp 1), none⟩,
  ⟨(some 9), .len (.tmp 8), none⟩,
  ⟨(some 10), .bin .neq (.tmp 7) (.tmp 9), none⟩])
 (.cond (.tmp 10) (.seq (.reg [⟨(some 4), .mv (.const (.bool false)), none⟩])
 (.ret)) (.skip)))
 (.seq (.seq (.reg [⟨(some 5), .mv (.const (.int .i64 0)), none⟩])
 (.block 0 (.loop (.seq (.seq (.reg [⟨(some 11), .mv (.tmp 5), none⟩,
  ⟨(some 12), .mv (.tmp 0), none⟩,
  ⟨(some 13), .len (.tmp 12), none⟩,
  ⟨(some 14), .bin .lss (.tmp 11) (.tmp 13), none⟩])
 (.cond (.tmp 14) (.skip) (.exit 0)))
 (.seq (.block 1 (.seq (.reg [⟨(some 17), .mv (.tmp 0), none⟩,
  ⟨(some 18), .mv (.tmp 5), none⟩,
  ⟨(some 19), .iad 2 (.tmp 17) (.tmp 18), none⟩,
  ⟨(some 20), .ld (some 2) (.tmp 19), none⟩,
  ⟨(some 21), .mv (.tmp 1), none⟩,
  ⟨(some 22), .mv (.tmp 5), none⟩,
  ⟨(some 23), .iad 2 (.tmp 21) (.tmp 22), none⟩,
  ⟨(some 24), .ld (some 2) (.tmp 23), none⟩,
  ⟨(some 25), .aeq true 2 (.tmp 20) (.tmp 24), none⟩])
 (.cond (.tmp 25) (.seq (.reg [⟨(some 4), .mv (.const (.bool false)), none⟩])
 (.ret)) (.skip))))
 (.reg [⟨(some 15), .mv (.tmp 5), none⟩,
  ⟨(some 16), .bin .add (.tmp 15) (.const (.int .i64 1)), none⟩,
  ⟨(some 5), .mv (.tmp 16), none⟩]))))))
 (.seq (.reg [⟨(some 4), .mv (.const (.bool true)), none⟩])
 (.ret))))
def r_laws_rPairs : List ARes := [.tmp 4]
theorem ok_laws_rPairs : FnOk Try.prog 22 26 c_laws_rPairs r_laws_rPairs := ⟨⟨Try.f22, _, Try.func22, by kernel_rfl, rfl, rfl, by kernel_rfl, by kernel_rfl⟩⟩
end Go.Proofs.Ytckpfgkgigicpaa.Ab
end
section
namespace Go.Proofs.Ytckpfgkgigicpaa.Ab
open Go Go.RowKit
set_option linter.unusedVariables false
set_option linter.unusedSimpArgs false
theorem mixed : Try.prog.follows .mixedOrders = true := by kernel_rfl
abbrev V (x : Int) : Value := .int .i64 x
def imarks (k : Int) (n : Nat) : List Int := (List.range n).map fun (j : Nat) => k + (j : Int)
end Go.Proofs.Ytckpfgkgigicpaa.Ab
end
section
namespace Go.Proofs.Ytckpfgkgigicpaa
set_option linter.unusedVariables false
def rowB (l : List Int) (n : Nat) (most : Int) : Bool := l.all (fun x => decide (0 ≤ x) && decide (x ≤ most)) && decide (l.length = n)
theorem rowB_iff {l : List Int} {n : Nat} {most : Int} : rowB l n most = true ↔ (∀ x ∈ l, 0 ≤ x ∧ x ≤ most) ∧ l.length = n := by
  simp [rowB]

structure Cs where
  need : List Int
  setup : List Int
  unit : List Int
  hold : List Int
def Cs.good (c : Cs) : Bool := decide (c.need.length ≤ 8) && rowB c.need c.need.length 20 && rowB c.setup c.need.length 99 && rowB c.unit c.need.length 9 && rowB c.hold c.need.length 9
structure Good (c : Cs) : Prop where
  n8 : c.need.length ≤ 8
  need : ∀ x ∈ c.need, 0 ≤ x ∧ x ≤ 20
  setup : ∀ x ∈ c.setup, 0 ≤ x ∧ x ≤ 99
  unit : ∀ x ∈ c.unit, 0 ≤ x ∧ x ≤ 9
  hold : ∀ x ∈ c.hold, 0 ≤ x ∧ x ≤ 9
  ls : c.setup.length = c.need.length
  lu : c.unit.length = c.need.length
  lh : c.hold.length = c.need.length
def sumTo (l : List Int) (k : Nat) : Int := (l.take k).sum
theorem sumTo_zero (l : List Int) : sumTo l 0 = 0 := rfl
theorem sumTo_succ {l : List Int} {k : Nat} {x : Int} (h : l[k]? = some x) : sumTo l (k + 1) = sumTo l k + x := by
  obtain ⟨hk, rfl⟩ := List.getElem?_eq_some_iff.1 h
  unfold sumTo
  rw [List.take_succ_eq_append_getElem hk, List.sum_append]
  simp
theorem sumTo_all {l : List Int} {k : Nat} (h : l.length ≤ k) : sumTo l k = l.sum := by
  unfold sumTo; rw [List.take_of_length_le h]
theorem sumTo_bound {l : List Int} {m : Int} (hm : 0 ≤ m) (h : ∀ x ∈ l, 0 ≤ x ∧ x ≤ m) (k : Nat) : 0 ≤ sumTo l k ∧ sumTo l k ≤ m * k := by
  induction k with
  | zero => simp [sumTo]
  | succ k ih =>
    by_cases hk : k < l.length
    · have h1 := sumTo_succ (List.getElem?_eq_getElem hk)
      have h2 := h _ (List.getElem_mem hk)
      rw [h1]
      have : m * ((k + 1 : Nat) : Int) = m * k + m := by rw [Int.natCast_add, Int.mul_add]; simp
      omega
    · have h1 : sumTo l (k + 1) = sumTo l k := by rw [sumTo_all (by omega), sumTo_all (by omega)]
      rw [h1]
      have : m * ((k + 1 : Nat) : Int) = m * k + m := by rw [Int.natCast_add, Int.mul_add]; simp
      omega
end Go.Proofs.Ytckpfgkgigicpaa
end
section
namespace Go.Proofs.Ytckpfgkgigicpaa.Ab
open Go Go.RowKit
set_option linter.unusedVariables false
set_option linter.unusedSimpArgs false
abbrev rowB (l : List Int) : Blk := ⟨.own, 3, l.map (Value.int .i64)⟩
def markR (m : Mem) (id : Nat) (k0 : Int) (n : Nat) : Mem := m.set id (rowB (imarks k0 n))
theorem markR_len (m : Mem) (id : Nat) (k0 : Int) (n : Nat) : (markR m id k0 n).length = m.length := by simp [markR]

structure CaseA (m : Mem) (v : Value) (k : Cs) : Prop where
  ok : ∃ v1 v2 v3 v4, v = .agg #[v1, v2, v3, v4] ∧ IntsA m v1 k.need ∧ IntsA m v2 k.setup ∧ IntsA m v3 k.unit ∧ IntsA m v4 k.hold
theorem CaseA.ext {m : Mem} {v : Value} {k : Cs} (h : CaseA m v k) (new : Mem) : CaseA (m ++ new) v k := by
  obtain ⟨v1, v2, v3, v4, h0, h1, h2, h3, h4⟩ := h.ok
  exact ⟨v1, v2, v3, v4, h0, h1.ext new, h2.ext new, h3.ext new, h4.ext new⟩
theorem CaseA.ro {m : Mem} {v : Value} {k : Cs} (h : CaseA m v k) : CaseA (roM m) v k := by
  obtain ⟨v1, v2, v3, v4, h0, h1, h2, h3, h4⟩ := h.ok
  exact ⟨v1, v2, v3, v4, h0, h1.ro, h2.ro, h3.ro, h4.ro⟩
def _root_.Go.Proofs.Ytckpfgkgigicpaa.Cs.tot (k : Cs) : Int := k.need.length + k.setup.length + k.unit.length + k.hold.length
def OwnR (m : Mem) (id : Nat) (l : List Int) : Prop := m[id]? = some (rowB l)
theorem OwnR.lt {m : Mem} {id : Nat} {l : List Int} (h : OwnR m id l) : id < m.length := (List.getElem?_eq_some_iff.1 h).1
theorem OwnR.ext {m : Mem} {id : Nat} {l : List Int} (h : OwnR m id l) (new : Mem) : OwnR (m ++ new) id l := by
  unfold OwnR; rw [List.getElem?_append_left h.lt]; exact h
theorem OwnR.ints {m : Mem} {id : Nat} {l : List Int} (h : OwnR m id l) (hb : l.length ≤ 9223372036854775807) (fl : Nat) : IntsA m (.slice (some ⟨id, 0, none⟩) l.length fl) l := by
  refine IntsA.of_block hb (fun k hk => ?_) ?_
  · unfold rdc
    rw [show m[id]? = some (rowB l) from h]
    simp [hk]
  · unfold rdl
    rw [show m[id]? = some (rowB l) from h]
    simp [List.take_of_length_le]
end Go.Proofs.Ytckpfgkgigicpaa.Ab
end
section
namespace Go.Proofs.Ytckpfgkgigicpaa.Ab
open Go Go.RowKit Go.Proofs
set_option maxRecDepth 100000
def c_spec_DrawBestOrder : ACode := .seq (.reg [⟨(some 2), .alc 26 [(.int .i64 0), (.slice none 0 0), (.int .i64 0), (.int .i64 0), (.int .i64 0), (.int .i64 0)], none⟩,
  ⟨(some 3), .mv (.const (.int .i64 0)), none⟩,
  ⟨(some 4), .mv (.const (.int .i64 0)), none⟩])
 (.seq (.reg [⟨(some 7), .mv (.tmp 0), none⟩,
  ⟨(some 8), .bld [(.slice none 0 0), (.int .i64 0), (.int .u64 0)] [(0, 1, (.tmp 7))], none⟩,
  ⟨(some 9), .box 53 (.tmp 8), none⟩,
  ⟨(some 5), .mv (.tmp 9), none⟩])
 (.seq (.reg [⟨(some 10), .mv (.tmp 5), none⟩,
  ⟨(some 11), .call (.func 23) [(.tmp 10)], none⟩,
  ⟨(some 6), .alc 26 [(.int .i64 0), (.slice none 0 0), (.int .i64 0), (.int .i64 0), (.int .i64 0), (.int .i64 0)], none⟩,
  ⟨none, .st 6 (.tmp 6) (.tmp 11), none⟩])
 (.seq (.seq (.reg [⟨(some 13), .mv (.tmp 5), none⟩]) (.seq (.reg [⟨(some 15), .mv (.tmp 5), none⟩]) (.seq (.reg [⟨(some 18), .mv (.tmp 5), none⟩]) (.both (.seq (.reg [⟨(some 12), .ld (some 6) (.tmp 6), none⟩]) (.seq (.reg [⟨(some 14), .call (.func 24) [(.tmp 13), (.const (.int .i64 4))], none⟩]) (.seq (.reg [⟨(some 16), .call (.func 24) [(.tmp 15), (.const (.int .i64 2))], none⟩]) (.seq (.reg [⟨(some 17), .bin .sub (.tmp 14) (.tmp 16), none⟩]) (.seq (.reg [⟨(some 19), .call (.func 25) [(.tmp 18)], none⟩]) (.seq (.reg [⟨none, .st 6 (.tmp 2) (.tmp 12), none⟩]) (.seq (.reg [⟨(some 3), .mv (.tmp 17), none⟩]) (.seq (.reg [⟨(some 4), .mv (.tmp 19), none⟩]) (.skip))))))))) (.seq (.reg [⟨(some 14), .call (.func 24) [(.tmp 13), (.const (.int .i64 4))], none⟩]) (.both (.seq (.reg [⟨(some 12), .ld (some 6) (.tmp 6), none⟩]) (.seq (.reg [⟨(some 16), .call (.func 24) [(.tmp 15), (.const (.int .i64 2))], none⟩]) (.seq (.reg [⟨(some 17), .bin .sub (.tmp 14) (.tmp 16), none⟩]) (.seq (.reg [⟨(some 19), .call (.func 25) [(.tmp 18)], none⟩]) (.seq (.reg [⟨none, .st 6 (.tmp 2) (.tmp 12), none⟩]) (.seq (.reg [⟨(some 3), .mv (.tmp 17), none⟩]) (.seq (.reg [⟨(some 4), .mv (.tmp 19), none⟩]) (.skip)))))))) (.seq (.reg [⟨(some 16), .call (.func 24) [(.tmp 15), (.const (.int .i64 2))], none⟩]) (.seq (.reg [⟨(some 17), .bin .sub (.tmp 14) (.tmp 16), none⟩]) (.both (.seq (.reg [⟨(some 12), .ld (some 6) (.tmp 6), none⟩]) (.seq (.reg [⟨(some 19), .call (.func 25) [(.tmp 18)], none⟩]) (.seq (.reg [⟨none, .st 6 (.tmp 2) (.tmp 12), none⟩]) (.seq (.reg [⟨(some 3), .mv (.tmp 17), none⟩]) (.seq (.reg [⟨(some 4), .mv (.tmp 19), none⟩]) (.skip)))))) (.seq (.reg [⟨(some 19), .call (.func 25) [(.tmp 18)], none⟩]) (.seq (.reg [⟨(some 12), .ld (some 6) (.tmp 6), none⟩]) (.seq (.reg [⟨none, .st 6 (.tmp 2) (.tmp 12), none⟩]) (.seq (.reg [⟨(some 3), .mv (.tmp 17), none⟩]) (.seq (.reg [⟨(some 4), .mv (.tmp 19), none⟩]) (.skip)))))))))))))))
 (.ret))))
def r_spec_DrawBestOrder : List ARes := [.cell 2 (some 6), .tmp 3, .tmp 4]
theorem ok_spec_DrawBestOrder : FnOk Try.prog 5 20 c_spec_DrawBestOrder r_spec_DrawBestOrder := ⟨⟨Try.f5, _, Try.func5, by kernel_rfl, rfl, rfl, by kernel_rfl, by kernel_rfl⟩⟩
def c_spec_DrawIsConvexFor : ACode := .seq (.reg [⟨(some 2), .mv (.const (.slice none 0 0)), none⟩,
  ⟨(some 3), .mv (.const (.int .i64 0)), none⟩])
 (.seq (.reg [⟨(some 10), .mv (.tmp 0), none⟩,
  ⟨(some 11), .bld [(.slice none 0 0), (.int .i64 0), (.int .u64 0)] [(0, 1, (.tmp 10))], none⟩,
  ⟨(some 12), .box 53 (.tmp 11), none⟩,
  ⟨(some 4), .mv (.tmp 12), none⟩])
 (.seq (.reg [⟨(some 13), .bsl 3 1 0 [] [], none⟩,
  ⟨(some 14), .mv (.tmp 4), none⟩,
  ⟨(some 15), .call (.func 24) [(.tmp 14), (.const (.int .i64 6))], none⟩,
  ⟨(some 16), .un .neg (.tmp 15), none⟩,
  ⟨(some 17), .mv (.tmp 4), none⟩,
  ⟨(some 18), .call (.func 24) [(.tmp 17), (.const (.int .i64 20))], none⟩,
  ⟨(some 5), .mv (.tmp 13), none⟩,
  ⟨(some 6), .mv (.tmp 16), none⟩,
  ⟨(some 7), .mv (.tmp 18), none⟩])
 (.seq (.seq (.reg [⟨(some 19), .mv (.tmp 4), none⟩,
  ⟨(some 20), .bsl 3 1 7 [(.int .i64 0), (.int .i64 0), (.int .i64 0), (.int .i64 0), (.int .i64 0), (.int .i64 0), (.int .i64 0)] [(0, 1, (.const (.int .i64 3))), (1, 1, (.const (.int .i64 5))), (2, 1, (.const (.int .i64 8))), (3, 1, (.const (.int .i64 2))), (4, 1, (.const (.int .i64 1))), (5, 1, (.const (.int .i64 0))), (6, 1, (.const (.int .i64 12)))], none⟩,
  ⟨(some 21), .call (.func 36) [(.tmp 19), (.tmp 20)], none⟩,
  ⟨(some 8), .mv (.tmp 21), none⟩])
 (.block 0 (.loop (.seq (.seq (.reg [⟨(some 22), .mv (.tmp 8), none⟩,
  ⟨(some 23), .bin .gtr (.tmp 22) (.const (.int .i64 0)), none⟩])
 (.cond (.tmp 23) (.skip) (.exit 0)))
 (.seq (.block 1 (.seq (.reg [⟨(some 26), .mv (.tmp 5), none⟩,
  ⟨(some 27), .mv (.tmp 7), none⟩,
  ⟨(some 28), .bsl 3 1 1 [(.int .i64 0)] [(0, 1, (.tmp 27))], none⟩,
  ⟨(some 29), .app 3 1 8 (.tmp 26) (.tmp 28), none⟩,
  ⟨(some 5), .mv (.tmp 29), none⟩])
 (.seq (.reg [⟨(some 30), .mv (.tmp 7), none⟩,
  ⟨(some 31), .mv (.tmp 6), none⟩,
  ⟨(some 32), .bin .add (.tmp 30) (.tmp 31), none⟩,
  ⟨(some 7), .mv (.tmp 32), none⟩])
 (.reg [⟨(some 33), .mv (.tmp 6), none⟩,
  ⟨(some 34), .mv (.tmp 4), none⟩,
  ⟨(some 35), .call (.func 24) [(.tmp 34), (.const (.int .i64 3))], none⟩,
  ⟨(some 36), .bin .add (.tmp 33) (.tmp 35), none⟩,
  ⟨(some 37), .mv (.tmp 4), none⟩,
  ⟨(some 38), .call (.func 24) [(.tmp 37), (.const (.int .i64 12))], none⟩,
  ⟨(some 39), .bin .quo (.tmp 38) (.const (.int .i64 11)), none⟩,
  ⟨(some 40), .bin .mul (.tmp 39) (.const (.int .i64 3)), none⟩,
  ⟨(some 41), .bin .sub (.tmp 36) (.tmp 40), none⟩,
  ⟨(some 6), .mv (.tmp 41), none⟩]))))
 (.reg [⟨(some 24), .mv (.tmp 8), none⟩,
  ⟨(some 25), .bin .sub (.tmp 24) (.const (.int .i64 1)), none⟩,
  ⟨(some 8), .mv (.tmp 25), none⟩]))))))
 (.seq (.seq (.reg [⟨(some 42), .mv (.tmp 4), none⟩,
  ⟨(some 43), .call (.func 24) [(.tmp 42), (.const (.int .i64 30))], none⟩])
 (.block 2 (.seq (.reg [⟨(some 45), .bin .eql (.tmp 43) (.const (.int .i64 0)), none⟩,
  ⟨(some 44), .mv (.tmp 45), none⟩])
 (.cond (.tmp 44) (.seq (.reg [⟨(some 46), .mv (.tmp 5), none⟩,
  ⟨(some 47), .len (.tmp 46), none⟩,
  ⟨(some 48), .bin .gtr (.tmp 47) (.const (.int .i64 0)), none⟩])
 (.cond (.tmp 48) (.reg [⟨(some 49), .mv (.tmp 5), none⟩,
  ⟨(some 50), .mv (.tmp 4), none⟩,
  ⟨(some 51), .bsl 3 1 3 [(.int .i64 0), (.int .i64 0), (.int .i64 0)] [(0, 1, (.const (.int .i64 1000000000000))), (1, 1, (.const (.int .i64 1000000000001))), (2, 1, (.const (.int .i64 (-1000000000001))))], none⟩,
  ⟨(some 52), .call (.func 36) [(.tmp 50), (.tmp 51)], none⟩,
  ⟨(some 53), .iad 1 (.tmp 49) (.const (.int .i64 0)), none⟩,
  ⟨none, .st 1 (.tmp 53) (.tmp 52), none⟩]) (.skip))) (.seq (.reg [⟨(some 55), .bin .eql (.tmp 43) (.const (.int .i64 1)), none⟩,
  ⟨(some 54), .mv (.tmp 55), none⟩])
 (.cond (.tmp 54) (.seq (.reg [⟨(some 56), .mv (.tmp 4), none⟩,
  ⟨(some 57), .call (.func 24) [(.tmp 56), (.const (.int .i64 2))], none⟩,
  ⟨(some 58), .bin .add (.const (.int .i64 41)) (.tmp 57), none⟩,
  ⟨(some 9), .mv (.tmp 58), none⟩])
 (.block 3 (.loop (.seq (.seq (.reg [⟨(some 59), .mv (.tmp 5), none⟩,
  ⟨(some 60), .len (.tmp 59), none⟩,
  ⟨(some 61), .mv (.tmp 9), none⟩,
  ⟨(some 62), .bin .lss (.tmp 60) (.tmp 61), none⟩])
 (.cond (.tmp 62) (.skip) (.exit 3)))
 (.block 4 (.reg [⟨(some 63), .mv (.tmp 5), none⟩,
  ⟨(some 64), .bsl 3 1 1 [(.int .i64 0)] [(0, 1, (.const (.int .i64 0)))], none⟩,
  ⟨(some 65), .app 3 1 8 (.tmp 63) (.tmp 64), none⟩,
  ⟨(some 5), .mv (.tmp 65), none⟩])))))) (.skip)))))))
 (.seq (.reg [⟨(some 66), .mv (.tmp 5), none⟩,
  ⟨(some 67), .mv (.tmp 4), none⟩,
  ⟨(some 68), .bsl 3 1 8 [(.int .i64 0), (.int .i64 0), (.int .i64 0), (.int .i64 0), (.int .i64 0), (.int .i64 0), (.int .i64 0), (.int .i64 0)] [(0, 1, (.const (.int .i64 0))), (1, 1, (.const (.int .i64 0))), (2, 1, (.const (.int .i64 1))), (3, 1, (.const (.int .i64 3))), (4, 1, (.const (.int .i64 10))), (5, 1, (.const (.int .i64 (-1)))), (6, 1, (.const (.int .i64 1000000000000))), (7, 1, (.const (.int .i64 1000000000001)))], none⟩,
  ⟨(some 69), .call (.func 36) [(.tmp 67), (.tmp 68)], none⟩,
  ⟨(some 2), .mv (.tmp 66), none⟩,
  ⟨(some 3), .mv (.tmp 69), none⟩])
 (.ret))))))
def r_spec_DrawIsConvexFor : List ARes := [.tmp 2, .tmp 3]
theorem ok_spec_DrawIsConvexFor : FnOk Try.prog 11 70 c_spec_DrawIsConvexFor r_spec_DrawIsConvexFor := ⟨⟨Try.f11, _, Try.func11, by kernel_rfl, rfl, rfl, by kernel_rfl, by kernel_rfl⟩⟩
def c_spec_DrawIsWorthProof : ACode := .seq (.reg [⟨(some 2), .alc 26 [(.int .i64 0), (.slice none 0 0), (.int .i64 0), (.int .i64 0), (.int .i64 0), (.int .i64 0)], none⟩,
  ⟨(some 3), .mv (.const (.slice none 0 0)), none⟩])
 (.seq (.reg [⟨(some 11), .mv (.tmp 0), none⟩,
  ⟨(some 12), .bld [(.slice none 0 0), (.int .i64 0), (.int .u64 0)] [(0, 1, (.tmp 11))], none⟩,
  ⟨(some 13), .box 53 (.tmp 12), none⟩,
  ⟨(some 4), .mv (.tmp 13), none⟩])
 (.seq (.reg [⟨(some 14), .mv (.tmp 4), none⟩,
  ⟨(some 15), .call (.func 23) [(.tmp 14)], none⟩,
  ⟨(some 5), .alc 26 [(.int .i64 0), (.slice none 0 0), (.int .i64 0), (.int .i64 0), (.int .i64 0), (.int .i64 0)], none⟩,
  ⟨none, .st 6 (.tmp 5) (.tmp 15), none⟩])
 (.seq (.reg [⟨(some 17), .ld (some 6) (.tmp 5), none⟩,
  ⟨(some 18), .call (.func 18) [(.tmp 17)], none⟩,
  ⟨(some 16), .mv (.tmp 18), none⟩,
  ⟨(some 19), .ext 0 (.tmp 16), none⟩,
  ⟨(some 20), .ext 1 (.tmp 16), none⟩,
  ⟨(some 6), .mv (.tmp 19), none⟩,
  ⟨(some 7), .mv (.tmp 20), none⟩])
 (.seq (.seq (.reg [⟨(some 21), .mv (.tmp 6), none⟩,
  ⟨(some 22), .len (.tmp 21), none⟩,
  ⟨(some 23), .bin .gtr (.tmp 22) (.const (.int .i64 0)), none⟩])
 (.cond (.tmp 23) (.seq (.reg [⟨(some 24), .mv (.tmp 4), none⟩,
  ⟨(some 25), .mv (.tmp 6), none⟩,
  ⟨(some 26), .len (.tmp 25), none⟩,
  ⟨(some 27), .call (.func 24) [(.tmp 24), (.tmp 26)], none⟩,
  ⟨(some 8), .mv (.tmp 27), none⟩])
 (.seq (.reg [⟨(some 28), .mv (.tmp 4), none⟩,
  ⟨(some 29), .mv (.tmp 6), none⟩,
  ⟨(some 30), .mv (.tmp 8), none⟩,
  ⟨(some 31), .iad 1 (.tmp 29) (.tmp 30), none⟩,
  ⟨(some 32), .ld none (.tmp 31), none⟩,
  ⟨(some 33), .len (.tmp 32), none⟩,
  ⟨(some 34), .call (.func 24) [(.tmp 28), (.tmp 33)], none⟩,
  ⟨(some 9), .mv (.tmp 34), none⟩])
 (.seq (.reg [⟨(some 35), .mv (.tmp 4), none⟩,
  ⟨(some 36), .call (.func 24) [(.tmp 35), (.const (.int .i64 8))], none⟩])
 (.block 0 (.seq (.reg [⟨(some 38), .bin .eql (.tmp 36) (.const (.int .i64 0)), none⟩,
  ⟨(some 37), .mv (.tmp 38), none⟩])
 (.cond (.tmp 37) (.seq (.reg [⟨(some 39), .mv (.tmp 6), none⟩]) (.seq (.reg [⟨(some 40), .mv (.tmp 8), none⟩]) (.seq (.reg [⟨(some 41), .iad 1 (.tmp 39) (.tmp 40), none⟩]) (.seq (.reg [⟨(some 43), .mv (.tmp 9), none⟩]) (.seq (.reg [⟨(some 44), .mv (.tmp 6), none⟩]) (.seq (.reg [⟨(some 45), .mv (.tmp 8), none⟩]) (.seq (.reg [⟨(some 46), .iad 1 (.tmp 44) (.tmp 45), none⟩]) (.seq (.reg [⟨(some 48), .mv (.tmp 9), none⟩]) (.seq (.reg [⟨(some 51), .mv (.tmp 4), none⟩]) (.both (.seq (.reg [⟨(some 42), .ld none (.tmp 41), none⟩]) (.both (.seq (.reg [⟨(some 47), .ld none (.tmp 46), none⟩]) (.seq (.reg [⟨(some 49), .iad 1 (.tmp 47) (.tmp 48), none⟩]) (.both (.seq (.reg [⟨(some 50), .ld none (.tmp 49), none⟩]) (.seq (.reg [⟨(some 52), .bsl 3 1 2 [(.int .i64 0), (.int .i64 0)] [(0, 1, (.const (.int .i64 1))), (1, 1, (.const (.int .i64 (-1))))], none⟩]) (.seq (.reg [⟨(some 53), .call (.func 36) [(.tmp 51), (.tmp 52)], none⟩]) (.seq (.reg [⟨(some 54), .bin .add (.tmp 50) (.tmp 53), none⟩]) (.seq (.reg [⟨(some 55), .iad 1 (.tmp 42) (.tmp 43), none⟩]) (.seq (.reg [⟨none, .st 1 (.tmp 55) (.tmp 54), none⟩]) (.skip))))))) (.seq (.reg [⟨(some 52), .bsl 3 1 2 [(.int .i64 0), (.int .i64 0)] [(0, 1, (.const (.int .i64 1))), (1, 1, (.const (.int .i64 (-1))))], none⟩]) (.both (.seq (.reg [⟨(some 50), .ld none (.tmp 49), none⟩]) (.seq (.reg [⟨(some 53), .call (.func 36) [(.tmp 51), (.tmp 52)], none⟩]) (.seq (.reg [⟨(some 54), .bin .add (.tmp 50) (.tmp 53), none⟩]) (.seq (.reg [⟨(some 55), .iad 1 (.tmp 42) (.tmp 43), none⟩]) (.seq (.reg [⟨none, .st 1 (.tmp 55) (.tmp 54), none⟩]) (.skip)))))) (.seq (.reg [⟨(some 53), .call (.func 36) [(.tmp 51), (.tmp 52)], none⟩]) (.seq (.reg [⟨(some 50), .ld none (.tmp 49), none⟩]) (.seq (.reg [⟨(some 54), .bin .add (.tmp 50) (.tmp 53), none⟩]) (.seq (.reg [⟨(some 55), .iad 1 (.tmp 42) (.tmp 43), none⟩]) (.seq (.reg [⟨none, .st 1 (.tmp 55) (.tmp 54), none⟩]) (.skip))))))))))) (.seq (.reg [⟨(some 52), .bsl 3 1 2 [(.int .i64 0), (.int .i64 0)] [(0, 1, (.const (.int .i64 1))), (1, 1, (.const (.int .i64 (-1))))], none⟩]) (.both (.seq (.reg [⟨(some 47), .ld none (.tmp 46), none⟩]) (.seq (.reg [⟨(some 49), .iad 1 (.tmp 47) (.tmp 48), none⟩]) (.both (.seq (.reg [⟨(some 50), .ld none (.tmp 49), none⟩]) (.seq (.reg [⟨(some 53), .call (.func 36) [(.tmp 51), (.tmp 52)], none⟩]) (.seq (.reg [⟨(some 54), .bin .add (.tmp 50) (.tmp 53), none⟩]) (.seq (.reg [⟨(some 55), .iad 1 (.tmp 42) (.tmp 43), none⟩]) (.seq (.reg [⟨none, .st 1 (.tmp 55) (.tmp 54), none⟩]) (.skip)))))) (.seq (.reg [⟨(some 53), .call (.func 36) [(.tmp 51), (.tmp 52)], none⟩]) (.seq (.reg [⟨(some 50), .ld none (.tmp 49), none⟩]) (.seq (.reg [⟨(some 54), .bin .add (.tmp 50) (.tmp 53), none⟩]) (.seq (.reg [⟨(some 55), .iad 1 (.tmp 42) (.tmp 43), none⟩]) (.seq (.reg [⟨none, .st 1 (.tmp 55) (.tmp 54), none⟩]) (.skip))))))))) (.seq (.reg [⟨(some 53), .call (.func 36) [(.tmp 51), (.tmp 52)], none⟩]) (.seq (.reg [⟨(some 47), .ld none (.tmp 46), none⟩]) (.seq (.reg [⟨(some 49), .iad 1 (.tmp 47) (.tmp 48), none⟩]) (.seq (.reg [⟨(some 50), .ld none (.tmp 49), none⟩]) (.seq (.reg [⟨(some 54), .bin .add (.tmp 50) (.tmp 53), none⟩]) (.seq (.reg [⟨(some 55), .iad 1 (.tmp 42) (.tmp 43), none⟩]) (.seq (.reg [⟨none, .st 1 (.tmp 55) (.tmp 54), none⟩]) (.skip)))))))))))) (.both (.seq (.reg [⟨(some 47), .ld none (.tmp 46), none⟩]) (.seq (.reg [⟨(some 49), .iad 1 (.tmp 47) (.tmp 48), none⟩]) (.both (.seq (.reg [⟨(some 42), .ld none (.tmp 41), none⟩]) (.both (.seq (.reg [⟨(some 50), .ld none (.tmp 49), none⟩]) (.seq (.reg [⟨(some 52), .bsl 3 1 2 [(.int .i64 0), (.int .i64 0)] [(0, 1, (.const (.int .i64 1))), (1, 1, (.const (.int .i64 (-1))))], none⟩]) (.seq (.reg [⟨(some 53), .call (.func 36) [(.tmp 51), (.tmp 52)], none⟩]) (.seq (.reg [⟨(some 54), .bin .add (.tmp 50) (.tmp 53), none⟩]) (.seq (.reg [⟨(some 55), .iad 1 (.tmp 42) (.tmp 43), none⟩]) (.seq (.reg [⟨none, .st 1 (.tmp 55) (.tmp 54), none⟩]) (.skip))))))) (.seq (.reg [⟨(some 52), .bsl 3 1 2 [(.int .i64 0), (.int .i64 0)] [(0, 1, (.const (.int .i64 1))), (1, 1, (.const (.int .i64 (-1))))], none⟩]) (.both (.seq (.reg [⟨(some 50), .ld none (.tmp 49), none⟩]) (.seq (.reg [⟨(some 53), .call (.func 36) [(.tmp 51), (.tmp 52)], none⟩]) (.seq (.reg [⟨(some 54), .bin .add (.tmp 50) (.tmp 53), none⟩]) (.seq (.reg [⟨(some 55), .iad 1 (.tmp 42) (.tmp 43), none⟩]) (.seq (.reg [⟨none, .st 1 (.tmp 55) (.tmp 54), none⟩]) (.skip)))))) (.seq (.reg [⟨(some 53), .call (.func 36) [(.tmp 51), (.tmp 52)], none⟩]) (.seq (.reg [⟨(some 50), .ld none (.tmp 49), none⟩]) (.seq (.reg [⟨(some 54), .bin .add (.tmp 50) (.tmp 53), none⟩]) (.seq (.reg [⟨(some 55), .iad 1 (.tmp 42) (.tmp 43), none⟩]) (.seq (.reg [⟨none, .st 1 (.tmp 55) (.tmp 54), none⟩]) (.skip)))))))))) (.both (.seq (.reg [⟨(some 50), .ld none (.tmp 49), none⟩]) (.both (.seq (.reg [⟨(some 42), .ld none (.tmp 41), none⟩]) (.seq (.reg [⟨(some 52), .bsl 3 1 2 [(.int .i64 0), (.int .i64 0)] [(0, 1, (.const (.int .i64 1))), (1, 1, (.const (.int .i64 (-1))))], none⟩]) (.seq (.reg [⟨(some 53), .call (.func 36) [(.tmp 51), (.tmp 52)], none⟩]) (.seq (.reg [⟨(some 54), .bin .add (.tmp 50) (.tmp 53), none⟩]) (.seq (.reg [⟨(some 55), .iad 1 (.tmp 42) (.tmp 43), none⟩]) (.seq (.reg [⟨none, .st 1 (.tmp 55) (.tmp 54), none⟩]) (.skip))))))) (.seq (.reg [⟨(some 52), .bsl 3 1 2 [(.int .i64 0), (.int .i64 0)] [(0, 1, (.const (.int .i64 1))), (1, 1, (.const (.int .i64 (-1))))], none⟩]) (.both (.seq (.reg [⟨(some 42), .ld none (.tmp 41), none⟩]) (.seq (.reg [⟨(some 53), .call (.func 36) [(.tmp 51), (.tmp 52)], none⟩]) (.seq (.reg [⟨(some 54), .bin .add (.tmp 50) (.tmp 53), none⟩]) (.seq (.reg [⟨(some 55), .iad 1 (.tmp 42) (.tmp 43), none⟩]) (.seq (.reg [⟨none, .st 1 (.tmp 55) (.tmp 54), none⟩]) (.skip)))))) (.seq (.reg [⟨(some 53), .call (.func 36) [(.tmp 51), (.tmp 52)], none⟩]) (.seq (.reg [⟨(some 42), .ld none (.tmp 41), none⟩]) (.seq (.reg [⟨(some 54), .bin .add (.tmp 50) (.tmp 53), none⟩]) (.seq (.reg [⟨(some 55), .iad 1 (.tmp 42) (.tmp 43), none⟩]) (.seq (.reg [⟨none, .st 1 (.tmp 55) (.tmp 54), none⟩]) (.skip)))))))))) (.seq (.reg [⟨(some 52), .bsl 3 1 2 [(.int .i64 0), (.int .i64 0)] [(0, 1, (.const (.int .i64 1))), (1, 1, (.const (.int .i64 (-1))))], none⟩]) (.both (.seq (.reg [⟨(some 42), .ld none (.tmp 41), none⟩]) (.both (.seq (.reg [⟨(some 50), .ld none (.tmp 49), none⟩]) (.seq (.reg [⟨(some 53), .call (.func 36) [(.tmp 51), (.tmp 52)], none⟩]) (.seq (.reg [⟨(some 54), .bin .add (.tmp 50) (.tmp 53), none⟩]) (.seq (.reg [⟨(some 55), .iad 1 (.tmp 42) (.tmp 43), none⟩]) (.seq (.reg [⟨none, .st 1 (.tmp 55) (.tmp 54), none⟩]) (.skip)))))) (.seq (.reg [⟨(some 53), .call (.func 36) [(.tmp 51), (.tmp 52)], none⟩]) (.seq (.reg [⟨(some 50), .ld none (.tmp 49), none⟩]) (.seq (.reg [⟨(some 54), .bin .add (.tmp 50) (.tmp 53), none⟩]) (.seq (.reg [⟨(some 55), .iad 1 (.tmp 42) (.tmp 43), none⟩]) (.seq (.reg [⟨none, .st 1 (.tmp 55) (.tmp 54), none⟩]) (.skip)))))))) (.both (.seq (.reg [⟨(some 50), .ld none (.tmp 49), none⟩]) (.both (.seq (.reg [⟨(some 42), .ld none (.tmp 41), none⟩]) (.seq (.reg [⟨(some 53), .call (.func 36) [(.tmp 51), (.tmp 52)], none⟩]) (.seq (.reg [⟨(some 54), .bin .add (.tmp 50) (.tmp 53), none⟩]) (.seq (.reg [⟨(some 55), .iad 1 (.tmp 42) (.tmp 43), none⟩]) (.seq (.reg [⟨none, .st 1 (.tmp 55) (.tmp 54), none⟩]) (.skip)))))) (.seq (.reg [⟨(some 53), .call (.func 36) [(.tmp 51), (.tmp 52)], none⟩]) (.seq (.reg [⟨(some 42), .ld none (.tmp 41), none⟩]) (.seq (.reg [⟨(some 54), .bin .add (.tmp 50) (.tmp 53), none⟩]) (.seq (.reg [⟨(some 55), .iad 1 (.tmp 42) (.tmp 43), none⟩]) (.seq (.reg [⟨none, .st 1 (.tmp 55) (.tmp 54), none⟩]) (.skip)))))))) (.seq (.reg [⟨(some 53), .call (.func 36) [(.tmp 51), (.tmp 52)], none⟩]) (.seq (.reg [⟨(some 42), .ld none (.tmp 41), none⟩]) (.seq (.reg [⟨(some 50), .ld none (.tmp 49), none⟩]) (.seq (.reg [⟨(some 54), .bin .add (.tmp 50) (.tmp 53), none⟩]) (.seq (.reg [⟨(some 55), .iad 1 (.tmp 42) (.tmp 43), none⟩]) (.seq (.reg [⟨none, .st 1 (.tmp 55) (.tmp 54), none⟩]) (.skip)))))))))))))) (.seq (.reg [⟨(some 52), .bsl 3 1 2 [(.int .i64 0), (.int .i64 0)] [(0, 1, (.const (.int .i64 1))), (1, 1, (.const (.int .i64 (-1))))], none⟩]) (.both (.seq (.reg [⟨(some 42), .ld none (.tmp 41), none⟩]) (.both (.seq (.reg [⟨(some 47), .ld none (.tmp 46), none⟩]) (.seq (.reg [⟨(some 49), .iad 1 (.tmp 47) (.tmp 48), none⟩]) (.both (.seq (.reg [⟨(some 50), .ld none (.tmp 49), none⟩]) (.seq (.reg [⟨(some 53), .call (.func 36) [(.tmp 51), (.tmp 52)], none⟩]) (.seq (.reg [⟨(some 54), .bin .add (.tmp 50) (.tmp 53), none⟩]) (.seq (.reg [⟨(some 55), .iad 1 (.tmp 42) (.tmp 43), none⟩]) (.seq (.reg [⟨none, .st 1 (.tmp 55) (.tmp 54), none⟩]) (.skip)))))) (.seq (.reg [⟨(some 53), .call (.func 36) [(.tmp 51), (.tmp 52)], none⟩]) (.seq (.reg [⟨(some 50), .ld none (.tmp 49), none⟩]) (.seq (.reg [⟨(some 54), .bin .add (.tmp 50) (.tmp 53), none⟩]) (.seq (.reg [⟨(some 55), .iad 1 (.tmp 42) (.tmp 43), none⟩]) (.seq (.reg [⟨none, .st 1 (.tmp 55) (.tmp 54), none⟩]) (.skip))))))))) (.seq (.reg [⟨(some 53), .call (.func 36) [(.tmp 51), (.tmp 52)], none⟩]) (.seq (.reg [⟨(some 47), .ld none (.tmp 46), none⟩]) (.seq (.reg [⟨(some 49), .iad 1 (.tmp 47) (.tmp 48), none⟩]) (.seq (.reg [⟨(some 50), .ld none (.tmp 49), none⟩]) (.seq (.reg [⟨(some 54), .bin .add (.tmp 50) (.tmp 53), none⟩]) (.seq (.reg [⟨(some 55), .iad 1 (.tmp 42) (.tmp 43), none⟩]) (.seq (.reg [⟨none, .st 1 (.tmp 55) (.tmp 54), none⟩]) (.skip)))))))))) (.both (.seq (.reg [⟨(some 47), .ld none (.tmp 46), none⟩]) (.seq (.reg [⟨(some 49), .iad 1 (.tmp 47) (.tmp 48), none⟩]) (.both (.seq (.reg [⟨(some 42), .ld none (.tmp 41), none⟩]) (.both (.seq (.reg [⟨(some 50), .ld none (.tmp 49), none⟩]) (.seq (.reg [⟨(some 53), .call (.func 36) [(.tmp 51), (.tmp 52)], none⟩]) (.seq (.reg [⟨(some 54), .bin .add (.tmp 50) (.tmp 53), none⟩]) (.seq (.reg [⟨(some 55), .iad 1 (.tmp 42) (.tmp 43), none⟩]) (.seq (.reg [⟨none, .st 1 (.tmp 55) (.tmp 54), none⟩]) (.skip)))))) (.seq (.reg [⟨(some 53), .call (.func 36) [(.tmp 51), (.tmp 52)], none⟩]) (.seq (.reg [⟨(some 50), .ld none (.tmp 49), none⟩]) (.seq (.reg [⟨(some 54), .bin .add (.tmp 50) (.tmp 53), none⟩]) (.seq (.reg [⟨(some 55), .iad 1 (.tmp 42) (.tmp 43), none⟩]) (.seq (.reg [⟨none, .st 1 (.tmp 55) (.tmp 54), none⟩]) (.skip)))))))) (.both (.seq (.reg [⟨(some 50), .ld none (.tmp 49), none⟩]) (.both (.seq (.reg [⟨(some 42), .ld none (.tmp 41), none⟩]) (.seq (.reg [⟨(some 53), .call (.func 36) [(.tmp 51), (.tmp 52)], none⟩]) (.seq (.reg [⟨(some 54), .bin .add (.tmp 50) (.tmp 53), none⟩]) (.seq (.reg [⟨(some 55), .iad 1 (.tmp 42) (.tmp 43), none⟩]) (.seq (.reg [⟨none, .st 1 (.tmp 55) (.tmp 54), none⟩]) (.skip)))))) (.seq (.reg [⟨(some 53), .call (.func 36) [(.tmp 51), (.tmp 52)], none⟩]) (.seq (.reg [⟨(some 42), .ld none (.tmp 41), none⟩]) (.seq (.reg [⟨(some 54), .bin .add (.tmp 50) (.tmp 53), none⟩]) (.seq (.reg [⟨(some 55), .iad 1 (.tmp 42) (.tmp 43), none⟩]) (.seq (.reg [⟨none, .st 1 (.tmp 55) (.tmp 54), none⟩]) (.skip)))))))) (.seq (.reg [⟨(some 53), .call (.func 36) [(.tmp 51), (.tmp 52)], none⟩]) (.seq (.reg [⟨(some 42), .ld none (.tmp 41), none⟩]) (.seq (.reg [⟨(some 50), .ld none (.tmp 49), none⟩]) (.seq (.reg [⟨(some 54), .bin .add (.tmp 50) (.tmp 53), none⟩]) (.seq (.reg [⟨(some 55), .iad 1 (.tmp 42) (.tmp 43), none⟩]) (.seq (.reg [⟨none, .st 1 (.tmp 55) (.tmp 54), none⟩]) (.skip))))))))))) (.seq (.reg [⟨(some 53), .call (.func 36) [(.tmp 51), (.tmp 52)], none⟩]) (.seq (.reg [⟨(some 42), .ld none (.tmp 41), none⟩]) (.seq (.reg [⟨(some 47), .ld none (.tmp 46), none⟩]) (.seq (.reg [⟨(some 49), .iad 1 (.tmp 47) (.tmp 48), none⟩]) (.seq (.reg [⟨(some 50), .ld none (.tmp 49), none⟩]) (.seq (.reg [⟨(some 54), .bin .add (.tmp 50) (.tmp 53), none⟩]) (.seq (.reg [⟨(some 55), .iad 1 (.tmp 42) (.tmp 43), none⟩]) (.seq (.reg [⟨none, .st 1 (.tmp 55) (.tmp 54), none⟩]) (.skip))))))))))))))))))))))) (.seq (.reg [⟨(some 57), .bin .eql (.tmp 36) (.const (.int .i64 1)), none⟩,
  ⟨(some 56), .mv (.tmp 57), none⟩])
 (.cond (.tmp 56) (.seq (.reg [⟨(some 58), .mv (.tmp 6), none⟩]) (.seq (.reg [⟨(some 59), .mv (.tmp 8), none⟩]) (.seq (.reg [⟨(some 60), .iad 1 (.tmp 58) (.tmp 59), none⟩]) (.seq (.reg [⟨(some 62), .mv (.tmp 9), none⟩]) (.seq (.reg [⟨(some 63), .mv (.tmp 4), none⟩]) (.both (.seq (.reg [⟨(some 61), .ld none (.tmp 60), none⟩]) (.seq (.reg [⟨(some 64), .bsl 3 1 4 [(.int .i64 0), (.int .i64 0), (.int .i64 0), (.int .i64 0)] [(0, 1, (.const (.int .i64 (-1000000000000)))), (1, 1, (.const (.int .i64 (-1000000000001)))), (2, 1, (.const (.int .i64 1000000000001))), (3, 1, (.const (.int .i64 4611686018427387904)))], none⟩]) (.seq (.reg [⟨(some 65), .call (.func 36) [(.tmp 63), (.tmp 64)], none⟩]) (.seq (.reg [⟨(some 66), .iad 1 (.tmp 61) (.tmp 62), none⟩]) (.seq (.reg [⟨none, .st 1 (.tmp 66) (.tmp 65), none⟩]) (.skip)))))) (.seq (.reg [⟨(some 64), .bsl 3 1 4 [(.int .i64 0), (.int .i64 0), (.int .i64 0), (.int .i64 0)] [(0, 1, (.const (.int .i64 (-1000000000000)))), (1, 1, (.const (.int .i64 (-1000000000001)))), (2, 1, (.const (.int .i64 1000000000001))), (3, 1, (.const (.int .i64 4611686018427387904)))], none⟩]) (.both (.seq (.reg [⟨(some 61), .ld none (.tmp 60), none⟩]) (.seq (.reg [⟨(some 65), .call (.func 36) [(.tmp 63), (.tmp 64)], none⟩]) (.seq (.reg [⟨(some 66), .iad 1 (.tmp 61) (.tmp 62), none⟩]) (.seq (.reg [⟨none, .st 1 (.tmp 66) (.tmp 65), none⟩]) (.skip))))) (.seq (.reg [⟨(some 65), .call (.func 36) [(.tmp 63), (.tmp 64)], none⟩]) (.seq (.reg [⟨(some 61), .ld none (.tmp 60), none⟩]) (.seq (.reg [⟨(some 66), .iad 1 (.tmp 61) (.tmp 62), none⟩]) (.seq (.reg [⟨none, .st 1 (.tmp 66) (.tmp 65), none⟩]) (.skip))))))))))))) (.seq (.reg [⟨(some 68), .bin .eql (.tmp 36) (.const (.int .i64 2)), none⟩,
  ⟨(some 67), .mv (.tmp 68), none⟩])
 (.cond (.tmp 67) (.reg [⟨(some 69), .mv (.tmp 6), none⟩,
  ⟨(some 70), .slc 1 (.tmp 69) (some (.const (.int .i64 1))) none, none⟩,
  ⟨(some 6), .mv (.tmp 70), none⟩]) (.seq (.reg [⟨(some 72), .bin .eql (.tmp 36) (.const (.int .i64 3)), none⟩,
  ⟨(some 71), .mv (.tmp 72), none⟩])
 (.cond (.tmp 71) (.reg [⟨(some 73), .mv (.tmp 6), none⟩,
  ⟨(some 74), .mv (.tmp 8), none⟩,
  ⟨(some 75), .mv (.tmp 6), none⟩,
  ⟨(some 76), .mv (.tmp 8), none⟩,
  ⟨(some 77), .iad 1 (.tmp 75) (.tmp 76), none⟩,
  ⟨(some 78), .ld none (.tmp 77), none⟩,
  ⟨(some 79), .slc 1 (.tmp 78) (some (.const (.int .i64 1))) none, none⟩,
  ⟨(some 80), .iad 1 (.tmp 73) (.tmp 74), none⟩,
  ⟨none, .st 1 (.tmp 80) (.tmp 79), none⟩]) (.seq (.reg [⟨(some 82), .bin .eql (.tmp 36) (.const (.int .i64 4)), none⟩,
  ⟨(some 81), .mv (.tmp 82), none⟩])
 (.cond (.tmp 81) (.seq (.reg [⟨(some 10), .mv (.const (.int .i64 0)), none⟩])
 (.block 1 (.loop (.seq (.seq (.reg [⟨(some 83), .mv (.tmp 10), none⟩,
  ⟨(some 84), .mv (.tmp 6), none⟩,
  ⟨(some 85), .iad 1 (.tmp 84) (.const (.int .i64 0)), none⟩,
  ⟨(some 86), .ld none (.tmp 85), none⟩,
  ⟨(some 87), .len (.tmp 86), none⟩,
  ⟨(some 88), .bin .lss (.tmp 83) (.tmp 87), none⟩])
 (.cond (.tmp 88) (.skip) (.exit 1)))
 (.seq (.block 2 (.reg [⟨(some 91), .mv (.tmp 6), none⟩,
  ⟨(some 92), .iad 1 (.tmp 91) (.const (.int .i64 0)), none⟩,
  ⟨(some 93), .ld none (.tmp 92), none⟩,
  ⟨(some 94), .mv (.tmp 10), none⟩,
  ⟨(some 95), .mv (.tmp 6), none⟩,
  ⟨(some 96), .iad 1 (.tmp 95) (.const (.int .i64 0)), none⟩,
  ⟨(some 97), .ld none (.tmp 96), none⟩,
  ⟨(some 98), .mv (.tmp 10), none⟩,
  ⟨(some 99), .iad 1 (.tmp 97) (.tmp 98), none⟩,
  ⟨(some 100), .ld none (.tmp 99), none⟩,
  ⟨(some 101), .bin .sub (.tmp 100) (.const (.int .i64 5)), none⟩,
  ⟨(some 102), .iad 1 (.tmp 93) (.tmp 94), none⟩,
  ⟨none, .st 1 (.tmp 102) (.tmp 101), none⟩]))
 (.reg [⟨(some 89), .mv (.tmp 10), none⟩,
  ⟨(some 90), .bin .add (.tmp 89) (.const (.int .i64 1)), none⟩,
  ⟨(some 10), .mv (.tmp 90), none⟩])))))) (.skip))))))))))))))) (.skip)))
 (.seq (.reg [⟨(some 103), .ld (some 6) (.tmp 5), none⟩,
  ⟨(some 104), .mv (.tmp 6), none⟩,
  ⟨none, .st 6 (.tmp 2) (.tmp 103), none⟩,
  ⟨(some 3), .mv (.tmp 104), none⟩])
 (.ret))))))
def r_spec_DrawIsWorthProof : List ARes := [.cell 2 (some 6), .tmp 3]
theorem ok_spec_DrawIsWorthProof : FnOk Try.prog 14 105 c_spec_DrawIsWorthProof r_spec_DrawIsWorthProof := ⟨⟨Try.f14, _, Try.func14, by kernel_rfl, rfl, rfl, by kernel_rfl, by kernel_rfl⟩⟩
def c_spec_l1Cur__process : ACode := .seq (.reg [⟨(some 2), .alc 26 [(.int .i64 0), (.slice none 0 0), (.int .i64 0), (.int .i64 0), (.int .i64 0), (.int .i64 0)], none⟩])
 (.seq (.reg [⟨(some 5), .mv (.tmp 0), none⟩,
  ⟨(some 6), .bsl 3 1 7 [(.int .i64 0), (.int .i64 0), (.int .i64 0), (.int .i64 0), (.int .i64 0), (.int .i64 0), (.int .i64 0)] [(0, 1, (.const (.int .i64 2))), (1, 1, (.const (.int .i64 3))), (2, 1, (.const (.int .i64 1))), (3, 1, (.const (.int .i64 2))), (4, 1, (.const (.int .i64 0))), (5, 1, (.const (.int .i64 4))), (6, 1, (.const (.int .i64 5)))], none⟩,
  ⟨(some 7), .call (.func 36) [(.tmp 5), (.tmp 6)], none⟩,
  ⟨(some 8), .mv (.tmp 0), none⟩,
  ⟨(some 9), .bsl 3 1 5 [(.int .i64 0), (.int .i64 0), (.int .i64 0), (.int .i64 0), (.int .i64 0)] [(0, 1, (.const (.int .i64 0))), (1, 1, (.const (.int .i64 3))), (2, 1, (.const (.int .i64 6))), (3, 1, (.const (.int .i64 10))), (4, 1, (.const (.int .i64 99)))], none⟩,
  ⟨(some 10), .call (.func 36) [(.tmp 8), (.tmp 9)], none⟩,
  ⟨(some 11), .mv (.tmp 0), none⟩,
  ⟨(some 12), .call (.func 24) [(.tmp 11), (.const (.int .i64 3))], none⟩,
  ⟨(some 13), .mv (.tmp 0), none⟩,
  ⟨(some 14), .call (.func 24) [(.tmp 13), (.const (.int .i64 3))], none⟩,
  ⟨(some 15), .bin .add (.const (.int .i64 1)) (.tmp 14), none⟩,
  ⟨(some 16), .mv (.tmp 0), none⟩,
  ⟨(some 17), .bsl 3 1 5 [(.int .i64 0), (.int .i64 0), (.int .i64 0), (.int .i64 0), (.int .i64 0)] [(0, 1, (.const (.int .i64 2))), (1, 1, (.const (.int .i64 4))), (2, 1, (.const (.int .i64 6))), (3, 1, (.const (.int .i64 9))), (4, 1, (.const (.int .i64 0)))], none⟩,
  ⟨(some 18), .call (.func 36) [(.tmp 16), (.tmp 17)], none⟩,
  ⟨(some 19), .bld [(.int .i64 0), (.slice none 0 0), (.int .i64 0), (.int .i64 0), (.int .i64 0), (.int .i64 0)] [(0, 1, (.tmp 7)), (2, 1, (.tmp 10)), (3, 1, (.tmp 12)), (4, 1, (.tmp 15)), (5, 1, (.tmp 18))], none⟩,
  ⟨(some 3), .alc 26 [(.int .i64 0), (.slice none 0 0), (.int .i64 0), (.int .i64 0), (.int .i64 0), (.int .i64 0)], none⟩,
  ⟨none, .st 6 (.tmp 3) (.tmp 19), none⟩])
 (.seq (.seq (.reg [⟨(some 20), .mv (.tmp 0), none⟩,
  ⟨(some 21), .call (.func 24) [(.tmp 20), (.const (.int .i64 5))], none⟩,
  ⟨(some 22), .bin .add (.const (.int .i64 1)) (.tmp 21), none⟩,
  ⟨(some 4), .mv (.tmp 22), none⟩])
 (.block 0 (.loop (.seq (.seq (.reg [⟨(some 23), .mv (.tmp 4), none⟩,
  ⟨(some 24), .bin .gtr (.tmp 23) (.const (.int .i64 0)), none⟩])
 (.cond (.tmp 24) (.skip) (.exit 0)))
 (.seq (.block 1 (.seq (.reg [⟨(some 27), .fad 1 (.tmp 3), none⟩]) (.seq (.reg [⟨(some 29), .mv (.tmp 0), none⟩]) (.both (.seq (.reg [⟨(some 28), .ld none (.tmp 27), none⟩]) (.seq (.reg [⟨(some 30), .bsl 3 1 5 [(.int .i64 0), (.int .i64 0), (.int .i64 0), (.int .i64 0), (.int .i64 0)] [(0, 1, (.const (.int .i64 1))), (1, 1, (.const (.int .i64 2))), (2, 1, (.const (.int .i64 1))), (3, 1, (.const (.int .i64 0))), (4, 1, (.const (.int .i64 3)))], none⟩]) (.seq (.reg [⟨(some 31), .call (.func 36) [(.tmp 29), (.tmp 30)], none⟩]) (.seq (.reg [⟨(some 32), .bsl 3 1 1 [(.int .i64 0)] [(0, 1, (.tmp 31))], none⟩]) (.seq (.reg [⟨(some 33), .app 3 1 8 (.tmp 28) (.tmp 32), none⟩]) (.seq (.reg [⟨(some 34), .fad 1 (.tmp 3), none⟩]) (.seq (.reg [⟨none, .st 1 (.tmp 34) (.tmp 33), none⟩]) (.skip)))))))) (.seq (.reg [⟨(some 30), .bsl 3 1 5 [(.int .i64 0), (.int .i64 0), (.int .i64 0), (.int .i64 0), (.int .i64 0)] [(0, 1, (.const (.int .i64 1))), (1, 1, (.const (.int .i64 2))), (2, 1, (.const (.int .i64 1))), (3, 1, (.const (.int .i64 0))), (4, 1, (.const (.int .i64 3)))], none⟩]) (.both (.seq (.reg [⟨(some 28), .ld none (.tmp 27), none⟩]) (.seq (.reg [⟨(some 31), .call (.func 36) [(.tmp 29), (.tmp 30)], none⟩]) (.seq (.reg [⟨(some 32), .bsl 3 1 1 [(.int .i64 0)] [(0, 1, (.tmp 31))], none⟩]) (.seq (.reg [⟨(some 33), .app 3 1 8 (.tmp 28) (.tmp 32), none⟩]) (.seq (.reg [⟨(some 34), .fad 1 (.tmp 3), none⟩]) (.seq (.reg [⟨none, .st 1 (.tmp 34) (.tmp 33), none⟩]) (.skip))))))) (.seq (.reg [⟨(some 31), .call (.func 36) [(.tmp 29), (.tmp 30)], none⟩]) (.seq (.reg [⟨(some 28), .ld none (.tmp 27), none⟩]) (.seq (.reg [⟨(some 32), .bsl 3 1 1 [(.int .i64 0)] [(0, 1, (.tmp 31))], none⟩]) (.seq (.reg [⟨(some 33), .app 3 1 8 (.tmp 28) (.tmp 32), none⟩]) (.seq (.reg [⟨(some 34), .fad 1 (.tmp 3), none⟩]) (.seq (.reg [⟨none, .st 1 (.tmp 34) (.tmp 33), none⟩]) (.skip)))))))))))))
 (.reg [⟨(some 25), .mv (.tmp 4), none⟩,
  ⟨(some 26), .bin .sub (.tmp 25) (.const (.int .i64 1)), none⟩,
  ⟨(some 4), .mv (.tmp 26), none⟩]))))))
 (.seq (.seq (.reg [⟨(some 35), .fad 1 (.tmp 3), none⟩,
  ⟨(some 36), .ld none (.tmp 35), none⟩,
  ⟨(some 37), .call (.func 49) [(.tmp 36)], none⟩,
  ⟨(some 38), .bin .eql (.tmp 37) (.const (.int .i64 0)), none⟩,
  ⟨(some 39), .mv (.tmp 38), none⟩,
  ⟨(some 40), .mv (.tmp 0), (some (39, true))⟩,
  ⟨(some 41), .call (.func 50) [(.tmp 40), (.const (.int .i64 4))], (some (39, true))⟩,
  ⟨(some 42), .un .not (.tmp 41), (some (39, true))⟩,
  ⟨(some 43), .pick (.tmp 39) (.tmp 42) (.const (.bool false)), none⟩])
 (.cond (.tmp 43) (.reg [⟨(some 44), .fad 1 (.tmp 3), none⟩,
  ⟨(some 45), .ld none (.tmp 44), none⟩,
  ⟨(some 46), .iad 1 (.tmp 45) (.const (.int .i64 0)), none⟩,
  ⟨none, .st 1 (.tmp 46) (.const (.int .i64 1)), none⟩]) (.skip)))
 (.seq (.seq (.reg [⟨(some 47), .mv (.tmp 0), none⟩,
  ⟨(some 48), .call (.func 24) [(.tmp 47), (.const (.int .i64 40))], none⟩])
 (.block 2 (.seq (.reg [⟨(some 50), .bin .eql (.tmp 48) (.const (.int .i64 0)), none⟩,
  ⟨(some 49), .mv (.tmp 50), none⟩])
 (.cond (.tmp 49) (.reg [⟨(some 51), .mv (.tmp 0), none⟩,
  ⟨(some 52), .bsl 3 1 2 [(.int .i64 0), (.int .i64 0)] [(0, 1, (.const (.int .i64 (-1)))), (1, 1, (.const (.int .i64 6)))], none⟩,
  ⟨(some 53), .call (.func 36) [(.tmp 51), (.tmp 52)], none⟩,
  ⟨(some 54), .fad 0 (.tmp 3), none⟩,
  ⟨none, .st 1 (.tmp 54) (.tmp 53), none⟩]) (.seq (.reg [⟨(some 56), .bin .eql (.tmp 48) (.const (.int .i64 1)), none⟩,
  ⟨(some 55), .mv (.tmp 56), none⟩])
 (.cond (.tmp 55) (.seq (.reg [⟨(some 57), .fad 1 (.tmp 3), none⟩]) (.seq (.reg [⟨(some 59), .mv (.tmp 0), none⟩]) (.both (.seq (.reg [⟨(some 58), .ld none (.tmp 57), none⟩]) (.seq (.reg [⟨(some 60), .bsl 3 1 3 [(.int .i64 0), (.int .i64 0), (.int .i64 0)] [(0, 1, (.const (.int .i64 (-1)))), (1, 1, (.const (.int .i64 4))), (2, 1, (.const (.int .i64 5)))], none⟩]) (.seq (.reg [⟨(some 61), .call (.func 36) [(.tmp 59), (.tmp 60)], none⟩]) (.seq (.reg [⟨(some 62), .iad 1 (.tmp 58) (.const (.int .i64 0)), none⟩]) (.seq (.reg [⟨none, .st 1 (.tmp 62) (.tmp 61), none⟩]) (.skip)))))) (.seq (.reg [⟨(some 60), .bsl 3 1 3 [(.int .i64 0), (.int .i64 0), (.int .i64 0)] [(0, 1, (.const (.int .i64 (-1)))), (1, 1, (.const (.int .i64 4))), (2, 1, (.const (.int .i64 5)))], none⟩]) (.both (.seq (.reg [⟨(some 58), .ld none (.tmp 57), none⟩]) (.seq (.reg [⟨(some 61), .call (.func 36) [(.tmp 59), (.tmp 60)], none⟩]) (.seq (.reg [⟨(some 62), .iad 1 (.tmp 58) (.const (.int .i64 0)), none⟩]) (.seq (.reg [⟨none, .st 1 (.tmp 62) (.tmp 61), none⟩]) (.skip))))) (.seq (.reg [⟨(some 61), .call (.func 36) [(.tmp 59), (.tmp 60)], none⟩]) (.seq (.reg [⟨(some 58), .ld none (.tmp 57), none⟩]) (.seq (.reg [⟨(some 62), .iad 1 (.tmp 58) (.const (.int .i64 0)), none⟩]) (.seq (.reg [⟨none, .st 1 (.tmp 62) (.tmp 61), none⟩]) (.skip)))))))))) (.seq (.reg [⟨(some 64), .bin .eql (.tmp 48) (.const (.int .i64 2)), none⟩,
  ⟨(some 63), .mv (.tmp 64), none⟩])
 (.cond (.tmp 63) (.reg [⟨(some 65), .mv (.tmp 0), none⟩,
  ⟨(some 66), .bsl 3 1 2 [(.int .i64 0), (.int .i64 0)] [(0, 1, (.const (.int .i64 (-1)))), (1, 1, (.const (.int .i64 100)))], none⟩,
  ⟨(some 67), .call (.func 36) [(.tmp 65), (.tmp 66)], none⟩,
  ⟨(some 68), .fad 2 (.tmp 3), none⟩,
  ⟨none, .st 1 (.tmp 68) (.tmp 67), none⟩]) (.seq (.reg [⟨(some 70), .bin .eql (.tmp 48) (.const (.int .i64 3)), none⟩,
  ⟨(some 69), .mv (.tmp 70), none⟩])
 (.cond (.tmp 69) (.reg [⟨(some 71), .mv (.tmp 0), none⟩,
  ⟨(some 72), .bsl 3 1 3 [(.int .i64 0), (.int .i64 0), (.int .i64 0)] [(0, 1, (.const (.int .i64 (-1)))), (1, 1, (.const (.int .i64 9))), (2, 1, (.const (.int .i64 10)))], none⟩,
  ⟨(some 73), .call (.func 36) [(.tmp 71), (.tmp 72)], none⟩,
  ⟨(some 74), .fad 5 (.tmp 3), none⟩,
  ⟨none, .st 1 (.tmp 74) (.tmp 73), none⟩]) (.seq (.reg [⟨(some 76), .bin .eql (.tmp 48) (.const (.int .i64 4)), none⟩,
  ⟨(some 75), .mv (.tmp 76), none⟩])
 (.cond (.tmp 75) (.reg [⟨(some 77), .bsl 3 1 0 [] [], none⟩,
  ⟨(some 78), .fad 1 (.tmp 3), none⟩,
  ⟨none, .st 1 (.tmp 78) (.tmp 77), none⟩]) (.skip)))))))))))))
 (.seq (.reg [⟨(some 79), .ld (some 6) (.tmp 3), none⟩,
  ⟨none, .st 6 (.tmp 2) (.tmp 79), none⟩])
 (.ret))))))
def r_spec_l1Cur__process : List ARes := [.cell 2 (some 6)]
theorem ok_spec_l1Cur__process : FnOk Try.prog 23 80 c_spec_l1Cur__process r_spec_l1Cur__process := ⟨⟨Try.f23, _, Try.func23, by kernel_rfl, rfl, rfl, by kernel_rfl, by kernel_rfl⟩⟩
def c_spec_l1Cur__pick : ACode := .seq (.reg [⟨(some 4), .mv (.const (.int .i64 0)), none⟩])
 (.seq (.seq (.reg [⟨(some 6), .mv (.tmp 1), none⟩,
  ⟨(some 7), .bin .leq (.tmp 6) (.const (.int .i64 1)), none⟩])
 (.cond (.tmp 7) (.seq (.reg [⟨(some 4), .mv (.const (.int .i64 0)), none⟩])
 (.ret)) (.skip)))
 (.seq (.reg [⟨(some 8), .mv (.tmp 0), none⟩,
  ⟨(some 9), .call (.func 51) [(.tmp 8)], none⟩,
  ⟨(some 5), .mv (.tmp 9), none⟩])
 (.seq (.seq (.reg [⟨(some 10), .mv (.tmp 1), none⟩,
  ⟨(some 11), .bin .gtr (.tmp 10) (.const (.int .i64 200)), none⟩])
 (.cond (.tmp 11) (.reg [⟨(some 12), .mv (.tmp 5), none⟩,
  ⟨(some 13), .bin .mul (.tmp 12) (.const (.int .i64 256)), none⟩,
  ⟨(some 14), .mv (.tmp 0), none⟩,
  ⟨(some 15), .call (.func 51) [(.tmp 14)], none⟩,
  ⟨(some 16), .bin .add (.tmp 13) (.tmp 15), none⟩,
  ⟨(some 5), .mv (.tmp 16), none⟩]) (.skip)))
 (.seq (.reg [⟨(some 17), .mv (.tmp 5), none⟩,
  ⟨(some 18), .mv (.tmp 1), none⟩,
  ⟨(some 19), .bin .rem (.tmp 17) (.tmp 18), none⟩,
  ⟨(some 4), .mv (.tmp 19), none⟩])
 (.ret)))))
def r_spec_l1Cur__pick : List ARes := [.tmp 4]
theorem ok_spec_l1Cur__pick : FnOk Try.prog 24 20 c_spec_l1Cur__pick r_spec_l1Cur__pick := ⟨⟨Try.f24, _, Try.func24, by kernel_rfl, rfl, rfl, by kernel_rfl, by kernel_rfl⟩⟩
def c_spec_l1Cur__level : ACode := .seq (.reg [⟨(some 2), .mv (.const (.int .i64 0)), none⟩])
 (.seq (.reg [⟨(some 3), .mv (.tmp 0), none⟩,
  ⟨(some 4), .bsl 3 1 12 [(.int .i64 0), (.int .i64 0), (.int .i64 0), (.int .i64 0), (.int .i64 0), (.int .i64 0), (.int .i64 0), (.int .i64 0), (.int .i64 0), (.int .i64 0), (.int .i64 0), (.int .i64 0)] [(0, 1, (.const (.int .i64 0))), (1, 1, (.const (.int .i64 1))), (2, 1, (.const (.int .i64 (-1)))), (3, 1, (.const (.int .i64 3))), (4, 1, (.const (.int .i64 (-3)))), (5, 1, (.const (.int .i64 5))), (6, 1, (.const (.int .i64 (-8)))), (7, 1, (.const (.int .i64 10))), (8, 1, (.const (.int .i64 (-10)))), (9, 1, (.const (.int .i64 7))), (10, 1, (.const (.int .i64 11))), (11, 1, (.const (.int .i64 (-11))))], none⟩,
  ⟨(some 5), .call (.func 36) [(.tmp 3), (.tmp 4)], none⟩,
  ⟨(some 2), .mv (.tmp 5), none⟩])
 (.ret))
def r_spec_l1Cur__level : List ARes := [.tmp 2]
theorem ok_spec_l1Cur__level : FnOk Try.prog 25 6 c_spec_l1Cur__level r_spec_l1Cur__level := ⟨⟨Try.f25, _, Try.func25, by kernel_rfl, rfl, rfl, by kernel_rfl, by kernel_rfl⟩⟩
def c_spec_l1Cur__among : ACode := .seq (.reg [⟨(some 4), .mv (.const (.int .i64 0)), none⟩])
 (.seq (.reg [⟨(some 5), .mv (.tmp 1), none⟩,
  ⟨(some 6), .mv (.tmp 0), none⟩,
  ⟨(some 7), .mv (.tmp 1), none⟩,
  ⟨(some 8), .len (.tmp 7), none⟩,
  ⟨(some 9), .call (.func 24) [(.tmp 6), (.tmp 8)], none⟩,
  ⟨(some 10), .iad 1 (.tmp 5) (.tmp 9), none⟩,
  ⟨(some 11), .ld none (.tmp 10), none⟩,
  ⟨(some 4), .mv (.tmp 11), none⟩])
 (.ret))
def r_spec_l1Cur__among : List ARes := [.tmp 4]
theorem ok_spec_l1Cur__among : FnOk Try.prog 36 12 c_spec_l1Cur__among r_spec_l1Cur__among := ⟨⟨Try.f36, _, Try.func36, by kernel_rfl, rfl, rfl, by kernel_rfl, by kernel_rfl⟩⟩
def c_spec_l1Cur__one : ACode := .seq (.reg [⟨(some 4), .mv (.const (.bool false)), none⟩])
 (.seq (.reg [⟨(some 5), .mv (.tmp 0), none⟩,
  ⟨(some 6), .mv (.tmp 1), none⟩,
  ⟨(some 7), .call (.func 24) [(.tmp 5), (.tmp 6)], none⟩,
  ⟨(some 8), .bin .eql (.tmp 7) (.const (.int .i64 0)), none⟩,
  ⟨(some 4), .mv (.tmp 8), none⟩])
 (.ret))
def r_spec_l1Cur__one : List ARes := [.tmp 4]
theorem ok_spec_l1Cur__one : FnOk Try.prog 50 9 c_spec_l1Cur__one r_spec_l1Cur__one := ⟨⟨Try.f50, _, Try.func50, by kernel_rfl, rfl, rfl, by kernel_rfl, by kernel_rfl⟩⟩
def c_spec_l1Cur__next : ACode := .seq (.reg [⟨(some 2), .mv (.const (.int .i64 0)), none⟩])
 (.seq (.reg [⟨(some 3), .mv (.const (.int .i64 0)), none⟩])
 (.seq (.seq (.reg [⟨(some 4), .mv (.tmp 0), none⟩,
  ⟨(some 5), .nilc (.tmp 4), none⟩,
  ⟨(some 6), .fad 1 (.tmp 5), none⟩,
  ⟨(some 7), .ld none (.tmp 6), none⟩,
  ⟨(some 8), .mv (.tmp 0), none⟩,
  ⟨(some 9), .nilc (.tmp 8), none⟩,
  ⟨(some 10), .fad 0 (.tmp 9), none⟩,
  ⟨(some 11), .ld none (.tmp 10), none⟩,
  ⟨(some 12), .len (.tmp 11), none⟩,
  ⟨(some 13), .bin .lss (.tmp 7) (.tmp 12), none⟩])
 (.cond (.tmp 13) (.reg [⟨(some 14), .mv (.tmp 0), none⟩,
  ⟨(some 15), .nilc (.tmp 14), none⟩,
  ⟨(some 16), .fad 0 (.tmp 15), none⟩,
  ⟨(some 17), .ld none (.tmp 16), none⟩,
  ⟨(some 18), .mv (.tmp 0), none⟩,
  ⟨(some 19), .nilc (.tmp 18), none⟩,
  ⟨(some 20), .fad 1 (.tmp 19), none⟩,
  ⟨(some 21), .ld none (.tmp 20), none⟩,
  ⟨(some 22), .iad 1 (.tmp 17) (.tmp 21), none⟩,
  ⟨(some 23), .ld none (.tmp 22), none⟩,
  ⟨(some 24), .conv .i64 (.tmp 23), none⟩,
  ⟨(some 3), .mv (.tmp 24), none⟩]) (.skip)))
 (.seq (.reg [⟨(some 25), .mv (.tmp 0), none⟩,
  ⟨(some 26), .nilc (.tmp 25), none⟩,
  ⟨(some 27), .fad 1 (.tmp 26), none⟩,
  ⟨(some 28), .ld none (.tmp 27), none⟩,
  ⟨(some 29), .bin .add (.tmp 28) (.const (.int .i64 1)), none⟩,
  ⟨(some 30), .nilc (.tmp 25), none⟩,
  ⟨(some 31), .fad 1 (.tmp 30), none⟩,
  ⟨none, .st 1 (.tmp 31) (.tmp 29), none⟩])
 (.seq (.reg [⟨(some 32), .mv (.tmp 0), none⟩,
  ⟨(some 33), .mv (.tmp 0), none⟩,
  ⟨(some 34), .nilc (.tmp 33), none⟩,
  ⟨(some 35), .fad 2 (.tmp 34), none⟩,
  ⟨(some 36), .ld none (.tmp 35), none⟩,
  ⟨(some 37), .bin .mul (.tmp 36) (.const (.int .u64 6364136223846793005)), none⟩,
  ⟨(some 38), .mv (.tmp 3), none⟩,
  ⟨(some 39), .conv .u64 (.tmp 38), none⟩,
  ⟨(some 40), .bin .add (.tmp 37) (.tmp 39), none⟩,
  ⟨(some 41), .bin .add (.tmp 40) (.const (.int .u64 462197)), none⟩,
  ⟨(some 42), .nilc (.tmp 32), none⟩,
  ⟨(some 43), .fad 2 (.tmp 42), none⟩,
  ⟨none, .st 1 (.tmp 43) (.tmp 41), none⟩])
 (.seq (.seq (.reg [⟨(some 44), .mv (.tmp 0), none⟩,
  ⟨(some 45), .nilc (.tmp 44), none⟩,
  ⟨(some 46), .fad 1 (.tmp 45), none⟩,
  ⟨(some 47), .ld none (.tmp 46), none⟩,
  ⟨(some 48), .mv (.tmp 0), none⟩,
  ⟨(some 49), .nilc (.tmp 48), none⟩,
  ⟨(some 50), .fad 0 (.tmp 49), none⟩,
  ⟨(some 51), .ld none (.tmp 50), none⟩,
  ⟨(some 52), .len (.tmp 51), none⟩,
  ⟨(some 53), .bin .leq (.tmp 47) (.tmp 52), none⟩])
 (.cond (.tmp 53) (.seq (.reg [⟨(some 54), .mv (.tmp 3), none⟩,
  ⟨(some 2), .mv (.tmp 54), none⟩])
 (.ret)) (.skip)))
 (.seq (.reg [⟨(some 55), .mv (.tmp 0), none⟩,
  ⟨(some 56), .nilc (.tmp 55), none⟩,
  ⟨(some 57), .fad 2 (.tmp 56), none⟩,
  ⟨(some 58), .ld none (.tmp 57), none⟩,
  ⟨(some 59), .bin .shr (.tmp 58) (.const (.int .u64 40)), none⟩,
  ⟨(some 60), .bin .and (.tmp 59) (.const (.int .u64 255)), none⟩,
  ⟨(some 61), .conv .i64 (.tmp 60), none⟩,
  ⟨(some 2), .mv (.tmp 61), none⟩])
 (.ret)))))))
def r_spec_l1Cur__next : List ARes := [.tmp 2]
theorem ok_spec_l1Cur__next : FnOk Try.prog 51 62 c_spec_l1Cur__next r_spec_l1Cur__next := ⟨⟨Try.f51, _, Try.func51, by kernel_rfl, rfl, rfl, by kernel_rfl, by kernel_rfl⟩⟩
end Go.Proofs.Ytckpfgkgigicpaa.Ab
end
section
namespace Go.Proofs.Ytckpfgkgigicpaa.Ab
open Go Go.RowKit
set_option linter.unusedVariables false
set_option linter.unusedSimpArgs false
structure CurA (M : Mem) (cb : Nat) (l : List Int) (id : Nat) (at_ : Nat) : Prop where
  code : M[cb]? = some ⟨.ro, 5, l.map (Value.int .u8)⟩
  byte : ∀ x ∈ l, 0 ≤ x ∧ x ≤ 255
  few : l.length ≤ 65536
  box : ∃ seed : Nat × Int, M[id]? = some ⟨.own, 53, [.slice (some ⟨cb, 0, none⟩) l.length seed.1, .int .i64 (at_ : Int), .int .u64 seed.2]⟩
structure Cw (id : Nat) (m M : Mem) : Prop where
  len : m.length ≤ M.length
  old : ∀ i, i ≠ id → i < m.length → M[i]? = m[i]?
  new : ∀ (i : Nat) (b : Blk), m.length ≤ i → M[i]? = some b → b.kd ≠ .ro
theorem Cw.refl (id : Nat) (m : Mem) : Cw id m m := ⟨Nat.le_refl _, fun _ _ _ => rfl, fun i b h1 h2 => by rw [List.getElem?_eq_none h1] at h2; cases h2⟩
theorem Cw.set (id : Nat) (m : Mem) (b : Blk) : Cw id m (m.set id b) :=
  ⟨by simp, fun i h _ => List.getElem?_set_ne (Ne.symm h), fun i b h1 h2 => by rw [List.getElem?_eq_none (by simpa using h1)] at h2; cases h2⟩
theorem Cw.trans {id : Nat} {A B C : Mem} (hid : id < A.length) (h : Cw id A B) (h' : Cw id B C) : Cw id A C :=
  ⟨Nat.le_trans h.len h'.len, fun i h1 h2 => (h'.old i h1 (Nat.lt_of_lt_of_le h2 h.len)).trans (h.old i h1 h2), fun i b h1 h2 => by
    by_cases hb : B.length ≤ i
    · exact h'.new i b hb h2
    · by_cases e : i = id
      · exact absurd e (fun e => by omega)
      · rw [h'.old i e (by omega)] at h2; exact h.new i b h1 h2⟩
theorem nilcC (a : Addr) : nilcA (.pointer (some a)) = some (.pointer (some a)) := rfl
theorem and255A (x : Int) : 0 ≤ IntKind.i64.wrap (IntKind.u64.wrap ((BitVec.ofInt IntKind.u64.bits x &&& BitVec.ofInt IntKind.u64.bits 255).toNat : Int)) ∧ IntKind.i64.wrap (IntKind.u64.wrap ((BitVec.ofInt IntKind.u64.bits x &&& BitVec.ofInt IntKind.u64.bits 255).toNat : Int)) ≤ 255 := by
  obtain ⟨y, hy⟩ : ∃ y, y = (BitVec.ofInt IntKind.u64.bits x &&& BitVec.ofInt IntKind.u64.bits 255).toNat := ⟨_, rfl⟩
  have hle : y ≤ 255 := by
    rw [hy, BitVec.toNat_and]
    refine Nat.le_trans Nat.and_le_right ?_
    decide
  rw [← hy]
  have e1 : IntKind.u64.wrap (y : Int) = (y : Int) := by
    rw [IntKind.wrap_u64]
    omega
  rw [e1, w64 ⟨by omega, by omega⟩]
  omega
abbrev curB (cb n fl : Nat) (a : Int) (seed : Int) : Blk := ⟨.own, 53, [.slice (some ⟨cb, 0, none⟩) n fl, .int .i64 a, .int .u64 seed]⟩
theorem cur_rd {M : Mem} {id cb n fl : Nat} {a seed : Int} (hb : M[id]? = some (curB cb n fl a seed)) : rdc M id 0 = some (.slice (some ⟨cb, 0, none⟩) n fl) ∧ rdc M id 1 = some (.int .i64 a) ∧ rdc M id 2 = some (.int .u64 seed) := by
  refine ⟨?_, ?_, ?_⟩ <;> (unfold rdc; rw [hb]; rfl)
theorem cur_set {M : Mem} {id cb n fl : Nat} {a seed : Int} (hb : M[id]? = some (curB cb n fl a seed)) (a' seed' : Int) : (M.set id (curB cb n fl a' seed'))[id]? = some (curB cb n fl a' seed') := by
  rw [List.getElem?_set_self (List.getElem?_eq_some_iff.1 hb).1]
theorem next_ac (M : Mem) (cb id at_ : Nat) (l : List Int) (h : CurA M cb l id at_) (ha : at_ ≤ 1000000000) :
    AC Try.prog 51 [.pointer (some ⟨id, 0, none⟩)] M fun r M' => ∃ x : Int, r = .int .i64 x ∧ 0 ≤ x ∧ x ≤ 255 ∧ Cw id M M' ∧ CurA M' cb l id (at_ + 1) := by
  refine ac_of_run mixed ok_spec_l1Cur__next (by simp) (go_start _ _ _ ?_)
  obtain ⟨⟨fl, seed⟩, hb⟩ := h.box
  obtain ⟨r0, r1, r2⟩ := cur_rd hb
  have st1 : stA M id 1 [.int .i64 ((at_ : Int) + 1)] = some (M.set id (curB cb l.length fl ((at_ : Int) + 1) seed)) := stA_at hb (by simp) rfl
  have hb1 := cur_set hb ((at_ : Int) + 1) seed
  obtain ⟨M1, hM1⟩ : ∃ M1, M1 = M.set id (curB cb l.length fl ((at_ : Int) + 1) seed) := ⟨_, rfl⟩
  rw [← hM1] at st1 hb1
  obtain ⟨p0, p1, p2⟩ := cur_rd hb1
  have st2 : ∀ E : Int, stA M1 id 2 [.int .u64 E] = some (M1.set id (curB cb l.length fl ((at_ : Int) + 1) E)) := fun E => stA_at hb1 (by simp) rfl
  have s0 : ∀ E : Int, rdc (M1.set id (curB cb l.length fl ((at_ : Int) + 1) E)) id 0 = some (.slice (some ⟨cb, 0, none⟩) l.length fl) := fun E => (cur_rd (cur_set hb1 _ E)).1
  have s1 : ∀ E : Int, rdc (M1.set id (curB cb l.length fl ((at_ : Int) + 1) E)) id 1 = some (.int .i64 ((at_ : Int) + 1)) := fun E => (cur_rd (cur_set hb1 _ E)).2.1
  have s2 : ∀ E : Int, rdc (M1.set id (curB cb l.length fl ((at_ : Int) + 1) E)) id 2 = some (.int .u64 E) := fun E => (cur_rd (cur_set hb1 _ E)).2.2
  have hne : cb ≠ id := fun e => by have := h.code; rw [e, hb] at this; cases this
  have fin : ∀ E : Int, Cw id M (M1.set id (curB cb l.length fl ((at_ : Int) + 1) E)) ∧ CurA (M1.set id (curB cb l.length fl ((at_ : Int) + 1) E)) cb l id (at_ + 1) := fun E => by
    rw [hM1, List.set_set]
    refine ⟨Cw.set _ _ _, ⟨by rw [List.getElem?_set_ne (Ne.symm hne)]; exact h.code, h.byte, h.few, (fl, E), ?_⟩⟩
    rw [List.getElem?_set_self (List.getElem?_eq_some_iff.1 hb).1]
    simp
  by_cases hlt : (at_ : Int) < l.length
  · have ia : iadA 1 (.slice (some ⟨cb, 0, none⟩) l.length fl) (.int .i64 (at_ : Int)) = some (.pointer (some ⟨cb, at_, none⟩)) := by
      have := iadA_in (id := cb) (off := 0) (n := l.length) (fl := fl) (sz := 1) (k := .i64) (j := at_) (by omega)
      simpa using this
    have hx := h.byte (l.getD at_ 0) (by rw [List.getD_eq_getElem?_getD, List.getElem?_eq_getElem (by omega)]; exact List.getElem_mem _)
    have rx : rdc M cb at_ = some (.int .u8 (l.getD at_ 0)) := by
      unfold rdc
      rw [h.code]
      simp [List.getD_eq_getElem?_getD, List.getElem?_eq_getElem (show at_ < l.length by omega)]
    have hle : (at_ : Int) + 1 ≤ l.length := by omega
    have w1 : IntKind.i64.wrap (l.getD at_ 0) = l.getD at_ 0 := w64 ⟨by omega, by omega⟩
    simp (config := {implicitDefEqProofs := false, maxDischargeDepth := 20}) (disch := first | omega | (simp only [lenE]; done) | (simp only [lenE]; omega) | rfl | (simp only [lenE, markR_len]; done) | (simp only [lenE, markR_len]; omega)) only [runE, mapE, listE, initT_5, initT_6, initT_7, initT_8, resV, oneV, binA, unA, reduceCtorEq, Nat.reduceEqDiff, Nat.reduceAdd, Nat.reduceLT, Nat.reduceLeDiff, Nat.reduceMul, Nat.reduceSub, ↓reduceIte, decide_true, decide_false, Bool.true_eq_false, Bool.false_eq_true, Bool.not_true, Bool.not_false, if_true, if_false, and_true, true_and, memE, celE, w64, Nat.zero_add, Nat.add_zero, Nat.mul_one, putL, and_self, ldn, c_spec_l1Cur__next, r_spec_l1Cur__next, nilcC, r0, r1, r2, hlt, ia, rx, st1, p0, p1, p2, st2, s0, s1, s2, hle, w1]
    exact ⟨_, rfl, hx.1, hx.2, fin _⟩
  · have hle : ¬ ((at_ : Int) + 1 ≤ l.length) := by omega
    have h40 : ¬ ((40 : Int) < 0) := by decide
    simp (config := {implicitDefEqProofs := false, maxDischargeDepth := 20}) (disch := first | omega | (simp only [lenE]; done) | (simp only [lenE]; omega) | rfl | (simp only [lenE, markR_len]; done) | (simp only [lenE, markR_len]; omega)) only [runE, mapE, listE, initT_5, initT_6, initT_7, initT_8, resV, oneV, binA, unA, reduceCtorEq, Nat.reduceEqDiff, Nat.reduceAdd, Nat.reduceLT, Nat.reduceLeDiff, Nat.reduceMul, Nat.reduceSub, ↓reduceIte, decide_true, decide_false, Bool.true_eq_false, Bool.false_eq_true, Bool.not_true, Bool.not_false, if_true, if_false, and_true, true_and, memE, celE, w64, Nat.zero_add, Nat.add_zero, Nat.mul_one, putL, and_self, ldn, c_spec_l1Cur__next, r_spec_l1Cur__next, nilcC, r0, r1, r2, hlt, st1, p0, p1, p2, st2, s0, s1, s2, hle, h40]
    exact ⟨_, rfl, (and255A _).1, (and255A _).2, fin _⟩
theorem CurA.lt {M : Mem} {cb id a : Nat} {l : List Int} (h : CurA M cb l id a) : id < M.length := by
  obtain ⟨seed, hb⟩ := h.box
  exact (List.getElem?_eq_some_iff.1 hb).1
theorem pick_ac (M : Mem) (cb id a : Nat) (l : List Int) (n : Int) (h : CurA M cb l id a) (ha : a ≤ 999999998) (h1 : 1 ≤ n) (h2 : n ≤ 65536) :
    AC Try.prog 24 [.pointer (some ⟨id, 0, none⟩), .int .i64 n] M fun r M' => ∃ x : Int, r = .int .i64 x ∧ 0 ≤ x ∧ x < n ∧ Cw id M M' ∧ ∃ a', a' ≤ a + 2 ∧ CurA M' cb l id a' := by
  refine ac_of_run mixed ok_spec_l1Cur__pick (by simp) (go_start _ _ _ ?_)
  by_cases hn : n ≤ 1
  · simp (config := {implicitDefEqProofs := false, maxDischargeDepth := 20}) (disch := first | omega | (simp only [lenE]; done) | (simp only [lenE]; omega) | rfl | (simp only [lenE, markR_len]; done) | (simp only [lenE, markR_len]; omega)) only [runE, mapE, listE, initT_5, initT_6, initT_7, initT_8, resV, oneV, binA, unA, reduceCtorEq, Nat.reduceEqDiff, Nat.reduceAdd, Nat.reduceLT, Nat.reduceLeDiff, Nat.reduceMul, Nat.reduceSub, ↓reduceIte, decide_true, decide_false, Bool.true_eq_false, Bool.false_eq_true, Bool.not_true, Bool.not_false, if_true, if_false, and_true, true_and, memE, celE, w64, Nat.zero_add, Nat.add_zero, Nat.mul_one, putL, and_self, ldn, c_spec_l1Cur__pick, r_spec_l1Cur__pick, hn]
    exact ⟨0, rfl, by omega, by omega, Cw.refl _ _, a, by omega, h⟩
  · simp (config := {implicitDefEqProofs := false, maxDischargeDepth := 20}) (disch := first | omega | (simp only [lenE]; done) | (simp only [lenE]; omega) | rfl | (simp only [lenE, markR_len]; done) | (simp only [lenE, markR_len]; omega)) only [runE, mapE, listE, initT_5, initT_6, initT_7, initT_8, resV, oneV, binA, unA, reduceCtorEq, Nat.reduceEqDiff, Nat.reduceAdd, Nat.reduceLT, Nat.reduceLeDiff, Nat.reduceMul, Nat.reduceSub, ↓reduceIte, decide_true, decide_false, Bool.true_eq_false, Bool.false_eq_true, Bool.not_true, Bool.not_false, if_true, if_false, and_true, true_and, memE, celE, w64, Nat.zero_add, Nat.add_zero, Nat.mul_one, putL, and_self, ldn, c_spec_l1Cur__pick, r_spec_l1Cur__pick, hn]
    refine callH_ac (next_ac M cb id a l h (by omega)) ?_
    rintro r M1 ⟨x, rfl, x0, x1, w1, k1⟩
    have hn0 : ¬ (n = 0) := by omega
    by_cases hb : n > 200
    · simp (config := {implicitDefEqProofs := false, maxDischargeDepth := 20}) (disch := first | omega | (simp only [lenE]; done) | (simp only [lenE]; omega) | rfl | (simp only [lenE, markR_len]; done) | (simp only [lenE, markR_len]; omega)) only [runE, mapE, listE, initT_5, initT_6, initT_7, initT_8, resV, oneV, binA, unA, reduceCtorEq, Nat.reduceEqDiff, Nat.reduceAdd, Nat.reduceLT, Nat.reduceLeDiff, Nat.reduceMul, Nat.reduceSub, ↓reduceIte, decide_true, decide_false, Bool.true_eq_false, Bool.false_eq_true, Bool.not_true, Bool.not_false, if_true, if_false, and_true, true_and, memE, celE, w64, Nat.zero_add, Nat.add_zero, Nat.mul_one, putL, and_self, ldn, hb]
      refine callH_ac (next_ac M1 cb id (a + 1) l k1 (by omega)) ?_
      rintro r M2 ⟨y, rfl, y0, y1, w2, k2⟩
      have e1 : IntKind.i64.wrap (x * 256) = x * 256 := w64 ⟨by omega, by omega⟩
      have e2 : IntKind.i64.wrap (x * 256 + y) = x * 256 + y := w64 ⟨by omega, by omega⟩
      simp (config := {implicitDefEqProofs := false, maxDischargeDepth := 20}) (disch := first | omega | (simp only [lenE]; done) | (simp only [lenE]; omega) | rfl | (simp only [lenE, markR_len]; done) | (simp only [lenE, markR_len]; omega)) only [runE, mapE, listE, initT_5, initT_6, initT_7, initT_8, resV, oneV, binA, unA, reduceCtorEq, Nat.reduceEqDiff, Nat.reduceAdd, Nat.reduceLT, Nat.reduceLeDiff, Nat.reduceMul, Nat.reduceSub, ↓reduceIte, decide_true, decide_false, Bool.true_eq_false, Bool.false_eq_true, Bool.not_true, Bool.not_false, if_true, if_false, and_true, true_and, memE, celE, w64, Nat.zero_add, Nat.add_zero, Nat.mul_one, putL, and_self, ldn, e1, e2, hn0]
      exact ⟨_, rfl, Int.tmod_nonneg _ (by omega), Int.tmod_lt_of_pos _ (by omega), w1.trans h.lt w2, a + 1 + 1, by omega, k2⟩
    · simp (config := {implicitDefEqProofs := false, maxDischargeDepth := 20}) (disch := first | omega | (simp only [lenE]; done) | (simp only [lenE]; omega) | rfl | (simp only [lenE, markR_len]; done) | (simp only [lenE, markR_len]; omega)) only [runE, mapE, listE, initT_5, initT_6, initT_7, initT_8, resV, oneV, binA, unA, reduceCtorEq, Nat.reduceEqDiff, Nat.reduceAdd, Nat.reduceLT, Nat.reduceLeDiff, Nat.reduceMul, Nat.reduceSub, ↓reduceIte, decide_true, decide_false, Bool.true_eq_false, Bool.false_eq_true, Bool.not_true, Bool.not_false, if_true, if_false, and_true, true_and, memE, celE, w64, Nat.zero_add, Nat.add_zero, Nat.mul_one, putL, and_self, ldn, hb, hn0]
      exact ⟨_, rfl, Int.tmod_nonneg _ (by omega), Int.tmod_lt_of_pos _ (by omega), w1, a + 1, by omega, k1⟩
theorem one_ac (M : Mem) (cb id a : Nat) (l : List Int) (n : Int) (h : CurA M cb l id a) (ha : a ≤ 999999998) (h1 : 1 ≤ n) (h2 : n ≤ 65536) :
    AC Try.prog 50 [.pointer (some ⟨id, 0, none⟩), .int .i64 n] M fun r M' => ∃ b : Bool, r = .bool b ∧ Cw id M M' ∧ ∃ a', a' ≤ a + 2 ∧ CurA M' cb l id a' := by
  refine ac_of_run mixed ok_spec_l1Cur__one (by simp) (go_start _ _ _ ?_)
  simp (config := {implicitDefEqProofs := false, maxDischargeDepth := 20}) (disch := first | omega | (simp only [lenE]; done) | (simp only [lenE]; omega) | rfl | (simp only [lenE, markR_len]; done) | (simp only [lenE, markR_len]; omega)) only [runE, mapE, listE, initT_5, initT_6, initT_7, initT_8, resV, oneV, binA, unA, reduceCtorEq, Nat.reduceEqDiff, Nat.reduceAdd, Nat.reduceLT, Nat.reduceLeDiff, Nat.reduceMul, Nat.reduceSub, ↓reduceIte, decide_true, decide_false, Bool.true_eq_false, Bool.false_eq_true, Bool.not_true, Bool.not_false, if_true, if_false, and_true, true_and, memE, celE, w64, Nat.zero_add, Nat.add_zero, Nat.mul_one, putL, and_self, ldn, c_spec_l1Cur__one, r_spec_l1Cur__one]
  refine callH_ac (pick_ac M cb id a l n h ha h1 h2) ?_
  rintro r M1 ⟨x, rfl, x0, x1, w1, k1⟩
  simp (config := {implicitDefEqProofs := false, maxDischargeDepth := 20}) (disch := first | omega | (simp only [lenE]; done) | (simp only [lenE]; omega) | rfl | (simp only [lenE, markR_len]; done) | (simp only [lenE, markR_len]; omega)) only [runE, mapE, listE, initT_5, initT_6, initT_7, initT_8, resV, oneV, binA, unA, reduceCtorEq, Nat.reduceEqDiff, Nat.reduceAdd, Nat.reduceLT, Nat.reduceLeDiff, Nat.reduceMul, Nat.reduceSub, ↓reduceIte, decide_true, decide_false, Bool.true_eq_false, Bool.false_eq_true, Bool.not_true, Bool.not_false, if_true, if_false, and_true, true_and, memE, celE, w64, Nat.zero_add, Nat.add_zero, Nat.mul_one, putL, and_self, ldn]
  exact ⟨_, rfl, w1, k1⟩
theorem among_ac (M : Mem) (cb id a : Nat) (l : List Int) (u : Value) (xs : List Int) (h : CurA M cb l id a) (ha : a ≤ 999999998) (h0 : IntsA M u xs) (hk : ∀ M', Cw id M M' → IntsA M' u xs) (h1 : 1 ≤ xs.length) (h2 : xs.length ≤ 1000) :
    AC Try.prog 36 [.pointer (some ⟨id, 0, none⟩), u] M fun r M' => ∃ x ∈ xs, r = .int .i64 x ∧ Cw id M M' ∧ ∃ a', a' ≤ a + 2 ∧ CurA M' cb l id a' := by
  refine ac_of_run mixed ok_spec_l1Cur__among (by simp) (go_start _ _ _ ?_)
  simp (config := {implicitDefEqProofs := false, maxDischargeDepth := 20}) (disch := first | omega | (simp only [lenE]; done) | (simp only [lenE]; omega) | rfl | (simp only [lenE, markR_len]; done) | (simp only [lenE, markR_len]; omega)) only [runE, mapE, listE, initT_5, initT_6, initT_7, initT_8, resV, oneV, binA, unA, reduceCtorEq, Nat.reduceEqDiff, Nat.reduceAdd, Nat.reduceLT, Nat.reduceLeDiff, Nat.reduceMul, Nat.reduceSub, ↓reduceIte, decide_true, decide_false, Bool.true_eq_false, Bool.false_eq_true, Bool.not_true, Bool.not_false, if_true, if_false, and_true, true_and, memE, celE, w64, Nat.zero_add, Nat.add_zero, Nat.mul_one, putL, and_self, ldn, c_spec_l1Cur__among, r_spec_l1Cur__among, h0.len]
  refine callH_ac (pick_ac M cb id a l (xs.length : Int) h ha (by omega) (by omega)) ?_
  rintro r M1 ⟨x, rfl, x0, x1, w1, k1⟩
  obtain ⟨j, rfl⟩ : ∃ j : Nat, x = (j : Int) := ⟨x.toNat, by omega⟩
  have i1 := hk M1 w1
  simp (config := {implicitDefEqProofs := false, maxDischargeDepth := 20}) (disch := first | omega | (simp only [lenE]; done) | (simp only [lenE]; omega) | rfl | (simp only [lenE, markR_len]; done) | (simp only [lenE, markR_len]; omega)) only [runE, mapE, listE, initT_5, initT_6, initT_7, initT_8, resV, oneV, binA, unA, reduceCtorEq, Nat.reduceEqDiff, Nat.reduceAdd, Nat.reduceLT, Nat.reduceLeDiff, Nat.reduceMul, Nat.reduceSub, ↓reduceIte, decide_true, decide_false, Bool.true_eq_false, Bool.false_eq_true, Bool.not_true, Bool.not_false, if_true, if_false, and_true, true_and, memE, celE, w64, Nat.zero_add, Nat.add_zero, Nat.mul_one, putL, and_self, ldn, i1.at_ j (by omega), i1.ld j (by omega)]
  refine ⟨xs.getD j 0, ?_, rfl, w1, k1⟩
  rw [List.getD_eq_getElem?_getD, List.getElem?_eq_getElem (by omega)]
  exact List.getElem_mem _
theorem Cw.own {id b : Nat} {M M' : Mem} {xs : List Int} (h : Cw id M M') (ho : OwnR M b xs) (hne : b ≠ id) : OwnR M' b xs := (h.old b hne ho.lt).trans ho
end Go.Proofs.Ytckpfgkgigicpaa.Ab
end
section
namespace Go.Proofs.Ytckpfgkgigicpaa
open Go.RowKit
def Rd (w : World) (B : Nat) (A : Option Addr) (xs : List Value) : Prop :=
  0 < xs.length → ∃ b off, A = some ⟨b, off, none⟩ ∧ b < B ∧ ∀ (k : Nat) (u : Value), xs[k]? = some u → w.cell? ⟨b, off + k, none⟩ = some u

theorem Rd.at_ {w : World} {B : Nat} {A : Option Addr} {xs : List Value} (h : Rd w B A xs) {k : Nat} {u : Value} (hk : xs[k]? = some u) :
    ∃ b off, A = some ⟨b, off, none⟩ ∧ b < B ∧ w.cell? ⟨b, off + k, none⟩ = some u := by
  obtain ⟨hl, _⟩ := List.getElem?_eq_some_iff.1 hk
  obtain ⟨b, off, e, hb, hc⟩ := h (by omega)
  exact ⟨b, off, e, hb, hc k u hk⟩
theorem Rd.nil (w : World) (B : Nat) (A : Option Addr) : Rd w B A [] := fun h => absurd h (by simp)
theorem Rd.keep {w w' : World} {B : Nat} {A : Option Addr} {xs : List Value} (h : Rd w B A xs) (hk : ∀ p : Addr, p.block < B → w'.cell? p = w.cell? p) : Rd w' B A xs := by
  intro hl
  obtain ⟨b, off, e, hb, hc⟩ := h hl
  exact ⟨b, off, e, hb, fun k u hu => (hk ⟨b, off + k, none⟩ hb).trans (hc k u hu)⟩
theorem Rd.below {w w' : World} {B : Nat} {A : Option Addr} {xs : List Value} (h : Rd w B A xs) (hb : Below B w w') : Rd w' B A xs :=
  h.keep fun _ hp => hb.cell hp
theorem Rd.drewN {w : World} {B : Nat} {A : Option Addr} {xs : List Value} (h : Rd w B A xs) (n : Nat) : Rd (w.drewN n) B A xs := h
theorem Rd.more {w : World} {B B' : Nat} {A : Option Addr} {xs : List Value} (h : Rd w B A xs) (hB : B ≤ B') : Rd w B' A xs := by
  intro hl
  obtain ⟨b, off, e, hb, hc⟩ := h hl
  exact ⟨b, off, e, by omega, hc⟩
theorem Rd.own {w : World} {base : Nat} {e : TypeId} {A : Option Addr} {n c : Nat} {xs : List Value} (h : w.ownsRow base e 1 (.slice A n c) n xs) : Rd w w.heap.size A xs := by
  intro hl
  obtain ⟨hn, h2⟩ := h
  rcases h2 with ⟨h0, rfl⟩ | ⟨g, cap, cur, hv, hb, hg, _, _, _, ht⟩
  · omega
  · simp only [Value.slice.injEq] at hv
    obtain ⟨rfl, _, _⟩ := hv
    refine ⟨g, 0, rfl, (Array.getElem?_eq_some_iff.1 hg).1, fun k u hu => ?_⟩
    rw [Nat.zero_add, cell_of_row w g k cur e (0, 0) hg]
    rw [← ht, List.getElem?_take] at hu
    split at hu
    · simpa using hu
    · cases hu
theorem below_drewN (B : Nat) (w : World) (n : Nat) : Below B w (w.drewN n) := ⟨rfl, rfl, rfl, Nat.le_refl _, fun _ _ => rfl⟩
def Drew (w w' : World) : Prop := ∃ n, w' = w.drewN n
theorem Drew.refl (w : World) : Drew w w := ⟨0, rfl⟩
theorem Drew.step {w w' : World} (h : Drew w w') (n : Nat) : Drew w (w'.drewN n) := by
  obtain ⟨k, rfl⟩ := h; exact ⟨k + n, by rw [World.drewN_drewN]⟩
theorem Drew.trans {w w' w2 : World} (h : Drew w w') (h2 : Drew w' w2) : Drew w w2 := by
  obtain ⟨k, rfl⟩ := h2; exact h.step k
theorem Drew.cell {w w' : World} (h : Drew w w') (p : Addr) : w'.cell? p = w.cell? p := by
  obtain ⟨k, rfl⟩ := h; rfl
theorem Drew.size {w w' : World} (h : Drew w w') : w'.heap.size = w.heap.size := by
  obtain ⟨k, rfl⟩ := h; rfl
theorem Drew.below {w w' : World} (h : Drew w w') (B : Nat) : Below B w w' := by
  obtain ⟨k, rfl⟩ := h; exact below_drewN B w k
theorem Drew.own {w w' : World} (h : Drew w w') {base : Nat} {e : TypeId} {size n : Nat} {v : Value} {xs : List Value} (ho : w.ownsRow base e size v n xs) : w'.ownsRow base e size v n xs := by
  obtain ⟨k, rfl⟩ := h; exact ho
end Go.Proofs.Ytckpfgkgigicpaa
end
section
namespace Go.Proofs.Ytckpfgkgigicpaa
open Go.RowKit
set_option linter.unusedVariables false
structure Kept (lo hi : Nat) (w w' : World) : Prop where
  os : w'.os = w.os
  tape : w'.tape = w.tape
  output : w'.output = w.output
  size : w.heap.size ≤ w'.heap.size
  block : ∀ k, k < w.heap.size → (k < lo ∨ hi ≤ k) → w'.heap[k]? = w.heap[k]?
theorem Kept.refl (lo hi : Nat) (w : World) : Kept lo hi w w := ⟨rfl, rfl, rfl, Nat.le_refl _, fun _ _ _ => rfl⟩
theorem Kept.trans {lo hi : Nat} {a b c : World} (h : Kept lo hi a b) (h2 : Kept lo hi b c) : Kept lo hi a c :=
  ⟨h2.os.trans h.os, h2.tape.trans h.tape, h2.output.trans h.output, Nat.le_trans h.size h2.size, fun k hk hr => (h2.block k (Nat.lt_of_lt_of_le hk h.size) hr).trans (h.block k hk hr)⟩
theorem Kept.wider {lo hi lo' hi' : Nat} {w w' : World} (h : Kept lo hi w w') (h1 : lo' ≤ lo) (h2 : hi ≤ hi') : Kept lo' hi' w w' :=
  ⟨h.os, h.tape, h.output, h.size, fun k hk hr => h.block k hk (by omega)⟩
theorem Kept.below {lo hi B : Nat} {w w' : World} (h : Kept lo hi w w') (h1 : B ≤ lo) (h2 : B ≤ w.heap.size) : Below B w w' :=
  ⟨h.os, h.tape, h.output, h.size, fun k hk => h.block k (by omega) (.inl (by omega))⟩
theorem Kept.set {lo hi : Nat} {w : World} {b off : Nat} (h1 : lo ≤ b) (h2 : b < hi) (v : Value) : Kept lo hi w (w.setCell ⟨b, off, none⟩ v) := by
  have h0 := (Below.refl lo w).setCell (p := ⟨b, off, none⟩) h1 v
  exact ⟨h0.os, h0.tape, h0.output, h0.size, fun k hk hr => Below.heap_setCell w _ v k (by show k ≠ b; omega)⟩

def IntsIn (w : World) (v : Value) (l : List Int) : Prop :=
  ∃ A c, v = .slice A l.length c ∧ l.length ≤ c ∧ c ≤ maxLen ∧ Rd w w.heap.size A (l.map (Value.int .i64))
theorem IntsIn.below {w w' : World} {v : Value} {l : List Int} (h : IntsIn w v l) (hb : Below w.heap.size w w') : IntsIn w' v l := by
  obtain ⟨A, c, h1, h2, h3, h4⟩ := h
  exact ⟨A, c, h1, h2, h3, (h4.below hb).more hb.size⟩
theorem IntsIn.nil (w : World) (c : Nat) (A : Option Addr) (h : c ≤ maxLen) : IntsIn w (.slice A 0 c) [] := ⟨A, c, rfl, Nat.zero_le _, h, Rd.nil _ _ _⟩

def OwnInts (w : World) (lo hi : Nat) (v : Value) (l : List Int) : Prop :=
  w.ownsRow lo 3 1 v l.length (l.map (Value.int .i64)) ∧ ∀ g, v.ownBlock = some g → g < hi
theorem OwnInts.form {w : World} {lo hi : Nat} {v : Value} {l : List Int} (h : OwnInts w lo hi v l) :
    ∃ A c, v = .slice A l.length c ∧ l.length ≤ c ∧ c ≤ maxLen := by
  rcases h.1.2 with ⟨rfl, h0⟩ | ⟨g, cap, cur, rfl, _, _, h1, h2, _⟩
  · exact ⟨none, 0, by rw [h0], by omega, Nat.zero_le _⟩
  · exact ⟨_, _, rfl, h1, h2⟩
theorem OwnInts.ints {w : World} {lo hi : Nat} {v : Value} {l : List Int} (h : OwnInts w lo hi v l) : IntsIn w v l := by
  obtain ⟨A, c, rfl, h1, h2⟩ := h.form
  exact ⟨A, c, rfl, h1, h2, Rd.own h.1⟩
theorem own_rest {w w' : World} {base : Nat} {e : TypeId} {size n : Nat} {v : Value} {xs : List Value} (h : w.ownsRow base e size v n xs) (hb : ∀ g, v.ownBlock = some g → w'.heap[g]? = w.heap[g]?) : w'.ownsRow base e size v n xs := by
  refine ⟨h.1, ?_⟩
  rcases h.2 with hn | ⟨g, cap, cur, rfl, hbg, hgg, rest⟩
  · exact .inl hn
  · exact .inr ⟨g, cap, cur, rfl, hbg, (hb g rfl).trans hgg, rest⟩
theorem own_block {w : World} {base : Nat} {e : TypeId} {size n : Nat} {v : Value} {xs : List Value} (h : w.ownsRow base e size v n xs) : ∀ g, v.ownBlock = some g → base ≤ g ∧ g < w.heap.size := by
  intro k hk
  rcases h.2 with ⟨rfl, rfl⟩ | ⟨g, cap, cur, rfl, hb, hg, _⟩
  · cases hk
  · simp only [Value.ownBlock, Option.some.injEq] at hk
    subst hk
    exact ⟨hb, (Array.getElem?_eq_some_iff.1 hg).1⟩
theorem own_rebase {w : World} {b b' : Nat} {e : TypeId} {size n : Nat} {v : Value} {xs : List Value} (h : w.ownsRow b e size v n xs) (hb : b' ≤ b) : w.ownsRow b' e size v n xs := by
  refine ⟨h.1, ?_⟩
  rcases h.2 with hn | ⟨g, cap, cur, rfl, hbg, rest⟩
  · exact .inl hn
  · exact .inr ⟨g, cap, cur, rfl, by omega, rest⟩
theorem OwnInts.kept {w w' : World} {lo hi lo' hi' : Nat} {v : Value} {l : List Int} (h : OwnInts w lo hi v l) (hk : Kept lo' hi' w w') (hd : hi ≤ lo' ∨ hi' ≤ lo) : OwnInts w' lo hi v l :=
  ⟨own_rest h.1 fun g hg => by
    have h1 := own_block h.1 g hg
    have h2 := h.2 g hg
    exact hk.block g h1.2 (by omega), h.2⟩
theorem OwnInts.below {w w' : World} {lo hi B : Nat} {v : Value} {l : List Int} (h : OwnInts w lo hi v l) (hb : Below B w w') (hd : hi ≤ B) : OwnInts w' lo hi v l :=
  ⟨own_rest h.1 fun g hg => by
    have h2 := h.2 g hg
    exact hb.block g (by omega), h.2⟩
theorem OwnInts.now {w : World} {lo : Nat} {v : Value} {l : List Int} (h : w.ownsRow lo 3 1 v l.length (l.map (Value.int .i64))) : OwnInts w lo w.heap.size v l :=
  ⟨h, fun g hg => (own_block h g hg).2⟩
theorem OwnInts.wider {w : World} {lo hi lo' hi' : Nat} {v : Value} {l : List Int} (h : OwnInts w lo hi v l) (h1 : lo' ≤ lo) (h2 : hi ≤ hi') : OwnInts w lo' hi' v l :=
  ⟨own_rebase h.1 h1, fun g hg => Nat.lt_of_lt_of_le (h.2 g hg) h2⟩
end Go.Proofs.Ytckpfgkgigicpaa
end
section
namespace Go.Proofs.Ytckpfgkgigicpaa
open Go.ChangeShapes Go.WideShapes Go.ChangeAt Go.RowKit
set_option linter.unusedVariables false
theorem own : ownKnob Try.prog.godebug = none := by kernel_rfl
theorem laidOut : laidOutB Try.prog = true := by kernel_rfl

theorem trodAll_below {H : Type} {enc : TypeId × Value → H} {P : Program} (hl : laidOutB P = true) {W W' : World} (hb : Below W.heap.size W W') :
    ∀ {ts : List TypeId} {vs : List Value} {ds : List (DataW H)} {ps : List MemPlace}, ts.all (fun t => P.readableRec t && decide (t < P.types.size)) = true →
      (∀ x ∈ ps, x.block < W.heap.size) → DataW.TrodAll enc P W 0 (fun _ => true) true ts vs ds ps →
      DataW.TrodAll enc P W' 0 (fun b => decide (b < W.heap.size)) true ts vs ds ps
  | [], [], [], ps, _, _, h => h
  | t :: ts, v :: vs, d :: ds, ps, hr, hp, h => by
    obtain ⟨p, q, h1, h2, rfl⟩ := h
    simp only [List.all_cons, Bool.and_eq_true, decide_eq_true_eq] at hr
    exact ⟨p, q, Below.trod hl hr.1.1 hr.1.2 h1 hb (fun x hx => hp x (by simp [hx])),
      trodAll_below hl hb hr.2 (fun x hx => hp x (by simp [hx])) h2, rfl⟩
  | [], _ :: _, _, _, _, _, h => h.elim
  | [], [], _ :: _, _, _, _, h => h.elim
  | _ :: _, [], _, _, _, _, h => h.elim
  | _ :: _, _ :: _, [], _, _, _, h => h.elim

theorem trodAll_len {H : Type} {enc : TypeId × Value → H} {P : Program} {W : World} {base : Nat} {sp : Nat → Bool} {hd : Bool} :
    ∀ {ts : List TypeId} {vs : List Value} {ds : List (DataW H)} {ps : List MemPlace}, DataW.TrodAll enc P W base sp hd ts vs ds ps → ds.length = ts.length
  | [], [], [], _, _ => rfl
  | _ :: _, _ :: _, _ :: _, _, h => by
    obtain ⟨_, _, _, h2, _⟩ := h
    simp [trodAll_len h2]
  | [], _ :: _, _, _, h => h.elim
  | [], [], _ :: _, _, h => h.elim
  | _ :: _, [], _, _, h => h.elim
  | _ :: _, _ :: _, [], _, h => h.elim

theorem law_post {H : Type} {enc : TypeId × Value → H} {P : Program} {f : Func} {s : ChangeSpec} {W W' : World} {args : Array Value} {ds gs : List (DataW H)} {before : List MemPlace} {tb : TypeId}
    (hl : laidOutB P = true) (hr : f.params.toList.all (fun t => P.readableRec t && decide (t < P.types.size)) = true)
    (hres : f.resultTypes = #[tb]) (htb : P.underlying tb = some .bool) (hv : s.vars = [])
    (hfn : ∀ xs : List (DataW H), xs.length = f.params.toList.length → s.fn H xs = { results := [.lit (.bool true)], args := xs })
    (hW : DataW.Whole enc P f.params.toList s.vars false W args.toList ds gs before) (hb : Below W.heap.size W W') :
    s.post enc P f false true false false W args (.bool true) W' := by
  have hW' := hW
  obtain ⟨p, q, hA, hV, rfl, hfz, hnd⟩ := hW
  rw [hv] at hV
  obtain ⟨rfl, rfl⟩ := trodVars_none hV
  have hlen := trodAll_len hA
  have hlt : ∀ x ∈ p, x.block < W.heap.size := fun x hx => by simpa using hW'.lt x (by simp [hx])
  have e : s.fn H (ds ++ []) = { results := [.lit (.bool true)], args := ds } := by rw [List.append_nil]; exact hfn ds hlen
  refine ⟨ds, [], p ++ [], [], p, [], hW', ?_, ?_, ?_, hb.frame _, fun h => by cases h⟩
  · rw [e, hres]; exact trodAll_mk1 (shut_bool htb _)
  · rw [e]; exact trodAll_below hl hb hr hlt hA
  · rw [e, hv]; exact rfl
end Go.Proofs.Ytckpfgkgigicpaa
end
section
namespace Go.Proofs.Ytckpfgkgigicpaa
open Go.ChangeShapes Go.WideShapes Go.ChangeAt Go.RowKit
open Go.WideMaps Go.WideElems
set_option linter.unusedVariables false
theorem cell_block {w : World} {p : Addr} {v : Value} (h : w.cell? p = some v) : p.block < w.heap.size := by
  rcases Nat.lt_or_ge p.block w.heap.size with hlt | hge
  · exact hlt
  · have hn : w.heap[p.block]? = none := Array.getElem?_eq_none hge
    simp [World.cell?, hn] at h

theorem rd_of {w : World} {a : Addr} {xs : List Value} (h : ∀ (i : Nat) (u : Value), xs[i]? = some u → w.cell? (a.add i) = some u) : Rd w w.heap.size (some a) xs := by
  intro hl
  obtain ⟨b, off, spot⟩ := a
  have h0 := h 0 _ (List.getElem?_eq_getElem hl)
  have hspot : spot = none := by simpa [Addr.add] using World.cell?_spot h0
  subst hspot
  exact ⟨b, off, rfl, cell_block h0, fun k u hu => by rw [← Go.WideShapes.add_plain]; exact h k u hu⟩

end Go.Proofs.Ytckpfgkgigicpaa
end
section
namespace Go.Proofs.Ytckpfgkgigicpaa
open Go.RowKit Go.ChangeShapes
open Go.WideMaps Go.WideElems Go.WideShapes Go.ChangeAt
set_option linter.unusedVariables false
theorem open_ints_rd {H : Type} {enc : TypeId × Value → H} {P : Program} {W : World} {base : Nat} {t e : TypeId} {k : IntKind} {v : Value} {d : DataW H} {ps : List MemPlace}
    (ht : P.underlying t = some (.slice e)) (he : P.underlying e = some (.int k)) (hc : P.cellsOf e = 1)
    (hval : Value.okWide P W .any base t v) (h : DataW.Trod enc P W 0 (fun _ => true) true t v d ps) :
    ∃ (A : Option Addr) (l : List Int) (c : Nat), v = .slice A l.length c ∧ Rd W W.heap.size A (l.map (Value.int k)) ∧ l.length ≤ c ∧ c ≤ maxLen ∧ ∀ n ∈ l, k.min ≤ n ∧ n ≤ k.max := by
  obtain ⟨a0, len, cap, rfl⟩ := okWide_slice ht hval
  obtain ⟨fuel, hf⟩ := h
  rcases Go.ChangeShapes.open_ints ht he hc hf with ⟨hcs, _⟩ | ⟨a, len', cap', zs, hcs, _, hl, hm, hz, _, hcell, hwf⟩
  · simp [Value.cells] at hcs
    obtain ⟨rfl, rfl, rfl⟩ := hcs
    exact ⟨none, [], 0, rfl, Rd.nil _ _ _, Nat.le_refl _, Nat.zero_le _, fun s hs => by cases hs⟩
  · simp [Value.cells] at hcs
    obtain ⟨rfl, rfl, rfl⟩ := hcs
    simp only [if_true] at hz
    have hlen : (zs.take len).length = len := by rw [List.length_take]; omega
    refine ⟨some a, zs.take len, cap, by rw [hlen], rd_of fun i u hu => ?_, by rw [hlen]; exact hl, hm, fun s hs => by
      have := hwf s (List.mem_of_mem_take hs)
      simpa [Lit.wf] using this⟩
    rw [List.getElem?_map, List.getElem?_take] at hu
    by_cases hi : i < len
    · rw [if_pos hi] at hu
      have hi2 : i < zs.length := by omega
      rw [hcell i hi2]
      rw [List.getElem?_eq_getElem hi2] at hu
      rw [List.getD_eq_getElem?_getD, List.getElem?_eq_getElem hi2]
      simpa using hu
    · rw [if_neg hi] at hu; cases hu
end Go.Proofs.Ytckpfgkgigicpaa
end
section
namespace Go.Proofs.Ytckpfgkgigicpaa
open Go.RowKit Go.ChangeShapes Go.WideShapes Go.ChangeAt
open Go.WideMaps Go.WideElems
set_option linter.unusedVariables false
def CaseIn (w : World) (v : Value) (k : Cs) : Prop :=
  ∃ v1 v2 v3 v4, v = .agg #[v1, v2, v3, v4] ∧ IntsIn w v1 k.need ∧ IntsIn w v2 k.setup ∧ IntsIn w v3 k.unit ∧ IntsIn w v4 k.hold
theorem CaseIn.below {w w' : World} {v : Value} {k : Cs} (h : CaseIn w v k) (hb : Below w.heap.size w w') : CaseIn w' v k := by
  obtain ⟨v1, v2, v3, v4, h0, h1, h2, h3, h4⟩ := h
  exact ⟨v1, v2, v3, v4, h0, h1.below hb, h2.below hb, h3.below hb, h4.below hb⟩
def OwnCase (w : World) (lo hi : Nat) (v : Value) (k : Cs) : Prop :=
  ∃ v1 v2 v3 v4 m1 m2 m3, v = .agg #[v1, v2, v3, v4] ∧ lo ≤ m1 ∧ m1 ≤ m2 ∧ m2 ≤ m3 ∧ m3 ≤ hi ∧ OwnInts w lo m1 v1 k.need ∧ OwnInts w m1 m2 v2 k.setup ∧ OwnInts w m2 m3 v3 k.unit ∧ OwnInts w m3 hi v4 k.hold
theorem OwnCase.ints {w : World} {lo hi : Nat} {v : Value} {k : Cs} (h : OwnCase w lo hi v k) : CaseIn w v k := by
  obtain ⟨v1, v2, v3, v4, m1, m2, m3, h0, _, _, _, _, h1, h2, h3, h4⟩ := h
  exact ⟨v1, v2, v3, v4, h0, h1.ints, h2.ints, h3.ints, h4.ints⟩
theorem OwnCase.kept {w w' : World} {lo hi lo' hi' : Nat} {v : Value} {k : Cs} (h : OwnCase w lo hi v k) (hk : Kept lo' hi' w w') (hd : hi ≤ lo' ∨ hi' ≤ lo) : OwnCase w' lo hi v k := by
  obtain ⟨v1, v2, v3, v4, m1, m2, m3, h0, a, b, c, d, h1, h2, h3, h4⟩ := h
  exact ⟨v1, v2, v3, v4, m1, m2, m3, h0, a, b, c, d, h1.kept hk (by omega), h2.kept hk (by omega), h3.kept hk (by omega), h4.kept hk (by omega)⟩
theorem OwnCase.below {w w' : World} {lo hi B : Nat} {v : Value} {k : Cs} (h : OwnCase w lo hi v k) (hb : Below B w w') (hd : hi ≤ B) : OwnCase w' lo hi v k := by
  obtain ⟨v1, v2, v3, v4, m1, m2, m3, h0, a, b, c, d, h1, h2, h3, h4⟩ := h
  exact ⟨v1, v2, v3, v4, m1, m2, m3, h0, a, b, c, d, h1.below hb (by omega), h2.below hb (by omega), h3.below hb (by omega), h4.below hb (by omega)⟩
theorem OwnCase.wider {w : World} {lo hi lo' hi' : Nat} {v : Value} {k : Cs} (h : OwnCase w lo hi v k) (e1 : lo' ≤ lo) (e2 : hi ≤ hi') : OwnCase w lo' hi' v k := by
  obtain ⟨v1, v2, v3, v4, m1, m2, m3, h0, a, b, c, d, h1, h2, h3, h4⟩ := h
  exact ⟨v1, v2, v3, v4, m1, m2, m3, h0, by omega, b, c, by omega, h1.wider e1 (Nat.le_refl _), h2, h3, h4.wider (Nat.le_refl _) e2⟩
theorem OwnCase.le {w : World} {lo hi : Nat} {v : Value} {k : Cs} (h : OwnCase w lo hi v k) : lo ≤ hi := by
  obtain ⟨v1, v2, v3, v4, m1, m2, m3, h0, a, b, c, d, _⟩ := h
  omega

end Go.Proofs.Ytckpfgkgigicpaa
end
section
namespace Go.Proofs.Ytckpfgkgigicpaa.Ab
open Go Go.RowKit
set_option linter.unusedVariables false
set_option linter.unusedSimpArgs false
theorem tab_none {base : Nat} {W : World} (h : tabB = none) : TabOk base W := fun g vs hg => by rw [h] at hg; cases hg
theorem MRel.start (W : World) (ht : TabOk W.heap.size W := by exact tab_none rfl) : MRel W W.heap.size [] [] W :=
  ⟨rfl, Below.refl _ _, Nat.le_refl _, fun id e xs h => by simp at h, fun id e xs h => by simp at h, fun i j e1 e2 xs ys b1 o1 t1 b2 o2 t2 hij h => by simp at h, ⟨fun id e es h => by simp at h, fun i j e1 e2 xs ys b1 o1 t1 b2 o2 t2 hij h => by simp at h⟩, Oth.refl _, ht⟩
theorem MRel.addRo {W0 : World} {base : Nat} {ρ : Places} {m : Mem} {w : World} (h : MRel W0 base ρ m w) {e : TypeId} {xs : List Value} {b o tot : Nat}
    (hg : ∀ (k : Nat) (x : Value), xs[k]? = some x → b < base ∧ ∃ y, w.cell? ⟨b, o + k, none⟩ = some y ∧ VR ρ x y) : MRel W0 base (ρ ++ [(b, o, tot)]) (m ++ [⟨.ro, e, xs⟩]) w := by
  have hpre := pre_snoc ρ (b, o, tot)
  refine ⟨by simp [h.len], h.below, h.le, ?_, ?_, ?_, h.maps.step hpre (fun id e es hm => by
    rcases at_app hm with ⟨_, hm⟩ | ⟨_, he⟩
    · exact hm
    · cases he) fun _ _ _ _ h => h, h.oth, h.tab⟩
  · intro id e' xs' hm
    rcases at_app hm with ⟨hi, hm⟩ | ⟨hi, he⟩
    · obtain ⟨b', o', tot', hp, hc⟩ := h.ro id e' xs' hm
      exact ⟨b', o', tot', pre_at hpre hp, fun k x hx => by obtain ⟨h1, y, hy, hv⟩ := hc k x hx; exact ⟨h1, y, hy, hv.mono hpre⟩⟩
    · cases he
      exact ⟨b, o, tot, by rw [hi, ← h.len]; simp, fun k x hx => by obtain ⟨h1, y, hy, hv⟩ := hg k x hx; exact ⟨h1, y, hy, hv.mono hpre⟩⟩
  · intro id e' xs' hm
    rcases at_app hm with ⟨hi, hm⟩ | ⟨hi, he⟩
    · obtain ⟨b', tot', hp, hl, hc⟩ := h.own id e' xs' hm
      refine ⟨b', tot', pre_at hpre hp, hl, fun ht => ?_⟩
      obtain ⟨h1, cur', hg', hs, hcur⟩ := hc ht
      exact ⟨h1, cur', hg', hs, fun k x hx => by obtain ⟨y, hy, hv⟩ := hcur k x hx; exact ⟨y, hy, hv.mono hpre⟩⟩
    · cases he
  · intro i j e1 e2 xs1 xs2 b1 o1 t1 b2 o2 t2 hij h1 h2 hp1 hp2 ht1 ht2
    have old : ∀ (i : Nat) (p : Nat × Nat × Nat), i < m.length → (ρ ++ [(b, o, tot)])[i]? = some p → ρ[i]? = some p := by
      intro i p hi hp
      rw [List.getElem?_append_left (by rw [h.len]; exact hi)] at hp
      exact hp
    rcases at_app h1 with ⟨hi1, hm1⟩ | ⟨hi1, he1⟩
    · rcases at_app h2 with ⟨hi2, hm2⟩ | ⟨hi2, he2⟩
      · exact h.apart i j e1 e2 xs1 xs2 b1 o1 t1 b2 o2 t2 hij hm1 hm2 (old i _ hi1 hp1) (old j _ hi2 hp2) ht1 ht2
      · cases he2
    · cases he1
theorem IntsIn.bd {W : World} {v : Value} {l : List Int} (h : IntsIn W v l) : l.length ≤ 9223372036854775807 := by
  obtain ⟨A, c, _, h1, h2, _⟩ := h
  unfold maxLen at h2; omega
theorem law_calls {P : Program} {f : FuncId} {xs : List Value} {m : Mem} {ρ : Places} {W : World} {cargs : List Value} (h : AC P f xs m fun v _ => v = .bool true) (hm : MRel W W.heap.size ρ m W) (hv : VL ρ xs cargs) :
    Calls P f cargs.toArray W fun e w' => e = .returned (.bool true) ∧ Below W.heap.size W w' := by
  refine (h.2 W W.heap.size ρ W cargs hm hv).mono ?_
  rintro e w' ⟨v, v', m', ρ', rfl, rfl, hp, hm', hvr⟩
  rw [hvr.bool_inv]
  exact ⟨rfl, hm'.below⟩

def RowA (m : Mem) (id : Nat) (l : List Int) : Prop := l.length ≤ 9223372036854775807 ∧ ∃ kd e, kd ≠ Kd.dead ∧ m[id]? = some ⟨kd, e, l.map (Value.int .i64)⟩
theorem RowA.lt {m : Mem} {id : Nat} {l : List Int} (h : RowA m id l) : id < m.length := by
  obtain ⟨_, _, _, _, h⟩ := h
  exact (List.getElem?_eq_some_iff.1 h).1
theorem RowA.ext {m : Mem} {id : Nat} {l : List Int} (h : RowA m id l) (new : Mem) : RowA (m ++ new) id l := by
  have hl := h.lt
  obtain ⟨hb, kd, e, hk, h⟩ := h
  exact ⟨hb, kd, e, hk, by rw [List.getElem?_append_left hl]; exact h⟩
theorem RowA.ro {m : Mem} {id : Nat} {l : List Int} (h : RowA m id l) : RowA (roM m) id l := by
  obtain ⟨hb, kd, e, hk, h⟩ := h
  cases kd with
  | dead => exact absurd rfl hk
  | ro => exact ⟨hb, .ro, e, by simp, by unfold roM; rw [List.getElem?_map, h]; rfl⟩
  | own => exact ⟨hb, .ro, e, by simp, by unfold roM; rw [List.getElem?_map, h]; rfl⟩
theorem RowA.ints {m : Mem} {id : Nat} {l : List Int} (h : RowA m id l) (fl : Nat) : IntsA m (.slice (some ⟨id, 0, none⟩) l.length fl) l := by
  obtain ⟨hb, kd, e, hk, h⟩ := h
  refine IntsA.of_block hb (fun k hk2 => ?_) ?_
  · unfold rdc
    rw [h]
    simp [hk, hk2]
  · unfold rdl
    rw [h]
    simp [hk, List.take_of_length_le]
theorem OwnR.row {m : Mem} {id : Nat} {l : List Int} (h : OwnR m id l) (hb : l.length ≤ 9223372036854775807) : RowA m id l := ⟨hb, .own, _, by simp, h⟩
theorem OwnR.here (m : Mem) (l : List Int) (id : Nat) (h : id = m.length) : OwnR (m ++ [rowB l]) id l := by unfold OwnR; rw [h]; simp
theorem OwnR.new {m new : Mem} {i id : Nat} {l : List Int} (h : new[i]? = some (rowB l)) (hi : id = m.length + i) : OwnR (m ++ new) id l := by
  unfold OwnR; rw [hi, List.getElem?_append_right (by omega)]; simpa using h

def AnsL (m : Mem) (l : List Int) (ok : Bool) (r : Value) (new : Mem) : Prop :=
  NoRo new ∧ l.length ≤ 1048576 ∧ ∃ i fl, r = .tuple #[.slice (some ⟨m.length + i, 0, none⟩) l.length fl, .bool ok] ∧ new[i]? = some (rowB l)
def AnsV (x r : Value) (new : Mem) : Prop := r = x ∧ NoRo new
end Go.Proofs.Ytckpfgkgigicpaa.Ab
end
section
namespace Go.Proofs.Ytckpfgkgigicpaa.Ab
open Go Go.RowKit Go.Proofs
set_option maxRecDepth 100000
def c_impl_BestOrder : ACode := .seq (.reg [⟨(some 3), .box 26 (.tmp 0), none⟩,
  ⟨(some 6), .mv (.const (.int .i64 0)), none⟩,
  ⟨(some 7), .mv (.const (.bool false)), none⟩])
 (.seq (.seq (.reg [⟨(some 8), .ld (some 6) (.tmp 3), none⟩,
  ⟨(some 9), .mv (.tmp 1), none⟩,
  ⟨(some 10), .call (.func 26) [(.tmp 8), (.tmp 9)], none⟩,
  ⟨(some 11), .un .not (.tmp 10), none⟩,
  ⟨(some 12), .mv (.tmp 11), none⟩,
  ⟨(some 13), .mv (.tmp 2), (some (12, false))⟩,
  ⟨(some 14), .call (.func 27) [(.tmp 13)], (some (12, false))⟩,
  ⟨(some 15), .un .not (.tmp 14), (some (12, false))⟩,
  ⟨(some 16), .pick (.tmp 12) (.const (.bool true)) (.tmp 15), none⟩])
 (.cond (.tmp 16) (.seq (.reg [⟨(some 6), .mv (.const (.int .i64 0)), none⟩,
  ⟨(some 7), .mv (.const (.bool false)), none⟩])
 (.ret)) (.skip)))
 (.seq (.reg [⟨(some 17), .ld (some 6) (.tmp 3), none⟩,
  ⟨(some 18), .mv (.tmp 1), none⟩,
  ⟨(some 19), .mv (.tmp 2), none⟩,
  ⟨(some 20), .ld (some 6) (.tmp 3), none⟩,
  ⟨(some 22), .mv (.tmp 1), none⟩,
  ⟨(some 23), .bin .add (.tmp 22) (.const (.int .i64 1)), none⟩,
  ⟨(some 21), .rcall (.func 29) [(.tmp 20)], none⟩,
  ⟨(some 24), .iad 1 (.tmp 21) (.tmp 23), none⟩,
  ⟨(some 25), .ld none (.tmp 24), none⟩,
  ⟨(some 26), .rcall (.func 28) [(.tmp 17), (.tmp 18), (.tmp 19), (.tmp 25)], none⟩,
  ⟨(some 27), .fld 2 none (.tmp 26), none⟩,
  ⟨(some 6), .mv (.tmp 27), none⟩,
  ⟨(some 7), .mv (.const (.bool true)), none⟩])
 (.ret)))
def r_impl_BestOrder : List ARes := [.tmp 6, .tmp 7]
theorem ok_impl_BestOrder : FnOk Try.prog 6 28 c_impl_BestOrder r_impl_BestOrder := ⟨⟨Try.f6, _, Try.func6, by kernel_rfl, rfl, rfl, by kernel_rfl, by kernel_rfl⟩⟩
def c_spec_BestOrder : ACode := .seq (.reg [⟨(some 3), .box 26 (.tmp 0), none⟩,
  ⟨(some 6), .mv (.const (.int .i64 0)), none⟩,
  ⟨(some 7), .mv (.const (.bool false)), none⟩])
 (.seq (.seq (.reg [⟨(some 10), .ld (some 6) (.tmp 3), none⟩,
  ⟨(some 11), .mv (.tmp 1), none⟩,
  ⟨(some 12), .call (.func 30) [(.tmp 10), (.tmp 11)], none⟩,
  ⟨(some 13), .un .not (.tmp 12), none⟩,
  ⟨(some 14), .mv (.tmp 13), none⟩,
  ⟨(some 15), .mv (.tmp 2), (some (14, false))⟩,
  ⟨(some 16), .call (.func 31) [(.tmp 15)], (some (14, false))⟩,
  ⟨(some 17), .un .not (.tmp 16), (some (14, false))⟩,
  ⟨(some 18), .pick (.tmp 14) (.const (.bool true)) (.tmp 17), none⟩])
 (.cond (.tmp 18) (.seq (.reg [⟨(some 6), .mv (.const (.int .i64 0)), none⟩,
  ⟨(some 7), .mv (.const (.bool false)), none⟩])
 (.ret)) (.skip)))
 (.seq (.reg [⟨(some 20), .ld (some 6) (.tmp 3), none⟩,
  ⟨(some 21), .ld (some 6) (.tmp 3), none⟩,
  ⟨(some 23), .mv (.tmp 1), none⟩,
  ⟨(some 24), .bin .add (.tmp 23) (.const (.int .i64 1)), none⟩,
  ⟨(some 27), .mv (.tmp 2), none⟩,
  ⟨(some 28), .fad 0 (.tmp 3), none⟩,
  ⟨(some 29), .ld none (.tmp 28), none⟩,
  ⟨(some 30), .mv (.tmp 1), none⟩,
  ⟨(some 31), .bin .sub (.tmp 29) (.tmp 30), none⟩,
  ⟨(some 22), .rcall (.func 33) [(.tmp 21)], none⟩,
  ⟨(some 25), .iad 1 (.tmp 22) (.tmp 24), none⟩,
  ⟨(some 26), .ld none (.tmp 25), none⟩,
  ⟨(some 32), .rcall (.func 32) [(.tmp 20), (.tmp 26), (.tmp 27), (.tmp 31)], none⟩,
  ⟨(some 19), .mv (.tmp 32), none⟩,
  ⟨(some 33), .ext 0 (.tmp 19), none⟩,
  ⟨(some 34), .ext 1 (.tmp 19), none⟩,
  ⟨(some 8), .mv (.tmp 33), none⟩,
  ⟨(some 9), .mv (.tmp 34), none⟩])
 (.seq (.reg [⟨(some 35), .mv (.tmp 8), none⟩,
  ⟨(some 6), .mv (.tmp 35), none⟩,
  ⟨(some 7), .mv (.const (.bool true)), none⟩])
 (.ret))))
def r_spec_BestOrder : List ARes := [.tmp 6, .tmp 7]
theorem ok_spec_BestOrder : FnOk Try.prog 7 36 c_spec_BestOrder r_spec_BestOrder := ⟨⟨Try.f7, _, Try.func7, by kernel_rfl, rfl, rfl, by kernel_rfl, by kernel_rfl⟩⟩
def c_impl_BillsOf : ACode := .seq (.reg [⟨(some 2), .box 26 (.tmp 0), none⟩,
  ⟨(some 4), .mv (.const (.slice none 0 0)), none⟩,
  ⟨(some 5), .mv (.const (.bool false)), none⟩])
 (.seq (.seq (.reg [⟨(some 6), .ld (some 6) (.tmp 2), none⟩,
  ⟨(some 7), .mv (.tmp 1), none⟩,
  ⟨(some 8), .call (.func 26) [(.tmp 6), (.tmp 7)], none⟩,
  ⟨(some 9), .un .not (.tmp 8), none⟩])
 (.cond (.tmp 9) (.seq (.reg [⟨(some 10), .bsl 3 1 0 [] [], none⟩,
  ⟨(some 4), .mv (.tmp 10), none⟩,
  ⟨(some 5), .mv (.const (.bool false)), none⟩])
 (.ret)) (.skip)))
 (.seq (.reg [⟨(some 11), .ld (some 6) (.tmp 2), none⟩,
  ⟨(some 12), .mv (.tmp 1), none⟩,
  ⟨(some 13), .ld (some 6) (.tmp 2), none⟩,
  ⟨(some 15), .mv (.tmp 1), none⟩,
  ⟨(some 16), .bin .add (.tmp 15) (.const (.int .i64 1)), none⟩,
  ⟨(some 14), .rcall (.func 29) [(.tmp 13)], none⟩,
  ⟨(some 17), .iad 1 (.tmp 14) (.tmp 16), none⟩,
  ⟨(some 18), .ld none (.tmp 17), none⟩,
  ⟨(some 19), .rcall (.func 34) [(.tmp 11), (.tmp 12), (.tmp 18)], none⟩,
  ⟨(some 4), .mv (.tmp 19), none⟩,
  ⟨(some 5), .mv (.const (.bool true)), none⟩])
 (.ret)))
def r_impl_BillsOf : List ARes := [.tmp 4, .tmp 5]
theorem ok_impl_BillsOf : FnOk Try.prog 8 20 c_impl_BillsOf r_impl_BillsOf := ⟨⟨Try.f8, _, Try.func8, by kernel_rfl, rfl, rfl, by kernel_rfl, by kernel_rfl⟩⟩
def c_spec_BillsOf : ACode := .seq (.reg [⟨(some 2), .box 26 (.tmp 0), none⟩,
  ⟨(some 4), .mv (.const (.slice none 0 0)), none⟩,
  ⟨(some 5), .mv (.const (.bool false)), none⟩])
 (.seq (.seq (.reg [⟨(some 6), .ld (some 6) (.tmp 2), none⟩,
  ⟨(some 7), .mv (.tmp 1), none⟩,
  ⟨(some 8), .call (.func 30) [(.tmp 6), (.tmp 7)], none⟩,
  ⟨(some 9), .un .not (.tmp 8), none⟩])
 (.cond (.tmp 9) (.seq (.reg [⟨(some 10), .bsl 3 1 0 [] [], none⟩,
  ⟨(some 4), .mv (.tmp 10), none⟩,
  ⟨(some 5), .mv (.const (.bool false)), none⟩])
 (.ret)) (.skip)))
 (.seq (.reg [⟨(some 11), .ld (some 6) (.tmp 2), none⟩,
  ⟨(some 12), .ld (some 6) (.tmp 2), none⟩,
  ⟨(some 14), .mv (.tmp 1), none⟩,
  ⟨(some 13), .rcall (.func 33) [(.tmp 12)], none⟩,
  ⟨(some 15), .rcall (.func 35) [(.tmp 11), (.tmp 13), (.tmp 14)], none⟩,
  ⟨(some 4), .mv (.tmp 15), none⟩,
  ⟨(some 5), .mv (.const (.bool true)), none⟩])
 (.ret)))
def r_spec_BillsOf : List ARes := [.tmp 4, .tmp 5]
theorem ok_spec_BillsOf : FnOk Try.prog 9 16 c_spec_BillsOf r_spec_BillsOf := ⟨⟨Try.f9, _, Try.func9, by kernel_rfl, rfl, rfl, by kernel_rfl, by kernel_rfl⟩⟩
def c_impl_IsConvexFor : ACode := .seq (.reg [⟨(some 4), .mv (.const (.bool false)), none⟩,
  ⟨(some 5), .mv (.const (.bool false)), none⟩])
 (.seq (.seq (.reg [⟨(some 7), .mv (.tmp 0), none⟩,
  ⟨(some 8), .len (.tmp 7), none⟩,
  ⟨(some 9), .bin .gtr (.tmp 8) (.const (.int .i64 41)), none⟩,
  ⟨(some 10), .mv (.tmp 9), none⟩,
  ⟨(some 11), .mv (.tmp 0), (some (10, false))⟩,
  ⟨(some 12), .call (.func 37) [(.tmp 11)], (some (10, false))⟩,
  ⟨(some 13), .un .not (.tmp 12), (some (10, false))⟩,
  ⟨(some 14), .pick (.tmp 10) (.const (.bool true)) (.tmp 13), none⟩,
  ⟨(some 15), .mv (.tmp 14), none⟩,
  ⟨(some 16), .mv (.tmp 1), (some (15, false))⟩,
  ⟨(some 17), .call (.func 38) [(.tmp 16), (.const (.int .i64 1000000000000))], (some (15, false))⟩,
  ⟨(some 18), .un .not (.tmp 17), (some (15, false))⟩,
  ⟨(some 19), .pick (.tmp 15) (.const (.bool true)) (.tmp 18), none⟩])
 (.cond (.tmp 19) (.seq (.reg [⟨(some 4), .mv (.const (.bool false)), none⟩,
  ⟨(some 5), .mv (.const (.bool false)), none⟩])
 (.ret)) (.skip)))
 (.seq (.seq (.reg [⟨(some 20), .mv (.tmp 0), none⟩,
  ⟨(some 21), .len (.tmp 20), none⟩,
  ⟨(some 22), .mv (.const (.int .i64 0)), none⟩])
 (.block 0 (.loop (.seq (.reg [⟨(some 23), .bin .lss (.tmp 22) (.tmp 21), none⟩])
 (.seq (.cond (.tmp 23) (.skip) (.exit 0))
 (.seq (.block 1 (.seq (.reg [⟨(some 24), .mv (.tmp 22), none⟩,
  ⟨(some 6), .mv (.tmp 24), none⟩])
 (.seq (.reg [⟨(some 25), .mv (.tmp 0), none⟩,
  ⟨(some 26), .mv (.tmp 1), none⟩,
  ⟨(some 27), .mv (.tmp 6), none⟩,
  ⟨(some 28), .call (.func 39) [(.tmp 25), (.tmp 26), (.tmp 27)], none⟩,
  ⟨(some 29), .un .not (.tmp 28), none⟩])
 (.cond (.tmp 29) (.seq (.reg [⟨(some 4), .mv (.const (.bool false)), none⟩,
  ⟨(some 5), .mv (.const (.bool true)), none⟩])
 (.ret)) (.skip)))))
 (.reg [⟨(some 30), .bin .add (.tmp 22) (.const (.int .i64 1)), none⟩,
  ⟨(some 22), .mv (.tmp 30), none⟩])))))))
 (.seq (.reg [⟨(some 4), .mv (.const (.bool true)), none⟩,
  ⟨(some 5), .mv (.const (.bool true)), none⟩])
 (.ret))))
def r_impl_IsConvexFor : List ARes := [.tmp 4, .tmp 5]
theorem ok_impl_IsConvexFor : FnOk Try.prog 12 31 c_impl_IsConvexFor r_impl_IsConvexFor := ⟨⟨Try.f12, _, Try.func12, by kernel_rfl, rfl, rfl, by kernel_rfl, by kernel_rfl⟩⟩
def c_spec_IsConvexFor : ACode := .seq (.reg [⟨(some 4), .mv (.const (.bool false)), none⟩,
  ⟨(some 5), .mv (.const (.bool false)), none⟩])
 (.seq (.seq (.reg [⟨(some 6), .mv (.const (.int .i64 0)), none⟩])
 (.block 0 (.loop (.seq (.seq (.reg [⟨(some 10), .mv (.tmp 6), none⟩,
  ⟨(some 11), .mv (.tmp 0), none⟩,
  ⟨(some 12), .len (.tmp 11), none⟩,
  ⟨(some 13), .bin .lss (.tmp 10) (.tmp 12), none⟩,
  ⟨(some 14), .mv (.tmp 13), none⟩,
  ⟨(some 15), .mv (.tmp 6), (some (14, true))⟩,
  ⟨(some 16), .bin .leq (.tmp 15) (.const (.int .i64 41)), (some (14, true))⟩,
  ⟨(some 17), .pick (.tmp 14) (.tmp 16) (.const (.bool false)), none⟩])
 (.cond (.tmp 17) (.skip) (.exit 0)))
 (.seq (.block 1 (.seq (.reg [⟨(some 20), .mv (.tmp 0), none⟩,
  ⟨(some 21), .mv (.tmp 6), none⟩,
  ⟨(some 22), .iad 1 (.tmp 20) (.tmp 21), none⟩,
  ⟨(some 23), .ld none (.tmp 22), none⟩,
  ⟨(some 24), .call (.func 40) [(.tmp 23), (.const (.int .i64 (-1000000000000))), (.const (.int .i64 1000000000000))], none⟩,
  ⟨(some 25), .un .not (.tmp 24), none⟩])
 (.cond (.tmp 25) (.seq (.reg [⟨(some 4), .mv (.const (.bool false)), none⟩,
  ⟨(some 5), .mv (.const (.bool false)), none⟩])
 (.ret)) (.skip))))
 (.reg [⟨(some 18), .mv (.tmp 6), none⟩,
  ⟨(some 19), .bin .add (.tmp 18) (.const (.int .i64 1)), none⟩,
  ⟨(some 6), .mv (.tmp 19), none⟩]))))))
 (.seq (.seq (.reg [⟨(some 26), .mv (.tmp 0), none⟩,
  ⟨(some 27), .len (.tmp 26), none⟩,
  ⟨(some 28), .bin .gtr (.tmp 27) (.const (.int .i64 41)), none⟩,
  ⟨(some 29), .mv (.tmp 28), none⟩,
  ⟨(some 30), .mv (.tmp 1), (some (29, false))⟩,
  ⟨(some 31), .call (.func 40) [(.tmp 30), (.const (.int .i64 0)), (.const (.int .i64 1000000000000))], (some (29, false))⟩,
  ⟨(some 32), .un .not (.tmp 31), (some (29, false))⟩,
  ⟨(some 33), .pick (.tmp 29) (.const (.bool true)) (.tmp 32), none⟩])
 (.cond (.tmp 33) (.seq (.reg [⟨(some 4), .mv (.const (.bool false)), none⟩,
  ⟨(some 5), .mv (.const (.bool false)), none⟩])
 (.ret)) (.skip)))
 (.seq (.seq (.reg [⟨(some 7), .mv (.const (.int .i64 0)), none⟩])
 (.block 2 (.loop (.seq (.seq (.reg [⟨(some 34), .mv (.tmp 7), none⟩,
  ⟨(some 35), .mv (.tmp 0), none⟩,
  ⟨(some 36), .len (.tmp 35), none⟩,
  ⟨(some 37), .bin .lss (.tmp 34) (.tmp 36), none⟩])
 (.cond (.tmp 37) (.skip) (.exit 2)))
 (.seq (.block 3 (.seq (.reg [⟨(some 8), .mv (.const (.int .i64 1)), none⟩])
 (.block 4 (.loop (.seq (.seq (.reg [⟨(some 40), .mv (.tmp 8), none⟩,
  ⟨(some 41), .mv (.tmp 7), none⟩,
  ⟨(some 42), .bin .leq (.tmp 40) (.tmp 41), none⟩])
 (.cond (.tmp 42) (.skip) (.exit 4)))
 (.seq (.block 5 (.seq (.reg [⟨(some 9), .mv (.const (.int .i64 1)), none⟩])
 (.block 6 (.loop (.seq (.seq (.reg [⟨(some 45), .mv (.tmp 7), none⟩,
  ⟨(some 46), .mv (.tmp 9), none⟩,
  ⟨(some 47), .bin .add (.tmp 45) (.tmp 46), none⟩,
  ⟨(some 48), .mv (.tmp 0), none⟩,
  ⟨(some 49), .len (.tmp 48), none⟩,
  ⟨(some 50), .bin .lss (.tmp 47) (.tmp 49), none⟩])
 (.cond (.tmp 50) (.skip) (.exit 6)))
 (.seq (.block 7 (.seq (.reg [⟨(some 53), .mv (.tmp 8), none⟩,
  ⟨(some 54), .mv (.tmp 1), none⟩,
  ⟨(some 55), .mv (.tmp 0), none⟩,
  ⟨(some 56), .mv (.tmp 7), none⟩,
  ⟨(some 57), .mv (.tmp 9), none⟩,
  ⟨(some 58), .bin .add (.tmp 56) (.tmp 57), none⟩,
  ⟨(some 59), .iad 1 (.tmp 55) (.tmp 58), none⟩,
  ⟨(some 60), .ld none (.tmp 59), none⟩,
  ⟨(some 61), .bin .add (.tmp 54) (.tmp 60), none⟩,
  ⟨(some 62), .bin .mul (.tmp 53) (.tmp 61), none⟩,
  ⟨(some 63), .mv (.tmp 8), none⟩,
  ⟨(some 64), .mv (.tmp 0), none⟩,
  ⟨(some 65), .mv (.tmp 7), none⟩,
  ⟨(some 66), .iad 1 (.tmp 64) (.tmp 65), none⟩,
  ⟨(some 67), .ld none (.tmp 66), none⟩,
  ⟨(some 68), .bin .mul (.tmp 63) (.tmp 67), none⟩,
  ⟨(some 69), .mv (.tmp 9), none⟩,
  ⟨(some 70), .mv (.tmp 0), none⟩,
  ⟨(some 71), .mv (.tmp 7), none⟩,
  ⟨(some 72), .iad 1 (.tmp 70) (.tmp 71), none⟩,
  ⟨(some 73), .ld none (.tmp 72), none⟩,
  ⟨(some 74), .mv (.tmp 0), none⟩,
  ⟨(some 75), .mv (.tmp 7), none⟩,
  ⟨(some 76), .mv (.tmp 8), none⟩,
  ⟨(some 77), .bin .sub (.tmp 75) (.tmp 76), none⟩,
  ⟨(some 78), .iad 1 (.tmp 74) (.tmp 77), none⟩,
  ⟨(some 79), .ld none (.tmp 78), none⟩,
  ⟨(some 80), .bin .sub (.tmp 73) (.tmp 79), none⟩,
  ⟨(some 81), .bin .mul (.tmp 69) (.tmp 80), none⟩,
  ⟨(some 82), .bin .add (.tmp 68) (.tmp 81), none⟩,
  ⟨(some 83), .bin .lss (.tmp 62) (.tmp 82), none⟩])
 (.cond (.tmp 83) (.seq (.reg [⟨(some 4), .mv (.const (.bool false)), none⟩,
  ⟨(some 5), .mv (.const (.bool true)), none⟩])
 (.ret)) (.skip))))
 (.reg [⟨(some 51), .mv (.tmp 9), none⟩,
  ⟨(some 52), .bin .add (.tmp 51) (.const (.int .i64 1)), none⟩,
  ⟨(some 9), .mv (.tmp 52), none⟩])))))))
 (.reg [⟨(some 43), .mv (.tmp 8), none⟩,
  ⟨(some 44), .bin .add (.tmp 43) (.const (.int .i64 1)), none⟩,
  ⟨(some 8), .mv (.tmp 44), none⟩])))))))
 (.reg [⟨(some 38), .mv (.tmp 7), none⟩,
  ⟨(some 39), .bin .add (.tmp 38) (.const (.int .i64 1)), none⟩,
  ⟨(some 7), .mv (.tmp 39), none⟩]))))))
 (.seq (.reg [⟨(some 4), .mv (.const (.bool true)), none⟩,
  ⟨(some 5), .mv (.const (.bool true)), none⟩])
 (.ret)))))
def r_spec_IsConvexFor : List ARes := [.tmp 4, .tmp 5]
theorem ok_spec_IsConvexFor : FnOk Try.prog 13 84 c_spec_IsConvexFor r_spec_IsConvexFor := ⟨⟨Try.f13, _, Try.func13, by kernel_rfl, rfl, rfl, by kernel_rfl, by kernel_rfl⟩⟩
def c_impl_IsWorthProof : ACode := .seq (.reg [⟨(some 2), .box 26 (.tmp 0), none⟩,
  ⟨(some 4), .mv (.const (.bool false)), none⟩,
  ⟨(some 5), .mv (.const (.bool false)), none⟩])
 (.seq (.seq (.reg [⟨(some 6), .ld (some 6) (.tmp 2), none⟩,
  ⟨(some 7), .call (.func 41) [(.tmp 6)], none⟩,
  ⟨(some 8), .un .not (.tmp 7), none⟩])
 (.cond (.tmp 8) (.seq (.reg [⟨(some 4), .mv (.const (.bool false)), none⟩,
  ⟨(some 5), .mv (.const (.bool false)), none⟩])
 (.ret)) (.skip)))
 (.seq (.reg [⟨(some 9), .ld (some 6) (.tmp 2), none⟩,
  ⟨(some 10), .mv (.tmp 1), none⟩,
  ⟨(some 11), .call (.func 42) [(.tmp 9), (.tmp 10)], none⟩,
  ⟨(some 12), .mv (.tmp 11), none⟩,
  ⟨(some 13), .ld (some 6) (.tmp 2), (some (12, true))⟩,
  ⟨(some 14), .mv (.tmp 1), (some (12, true))⟩,
  ⟨(some 15), .call (.func 43) [(.tmp 13), (.tmp 14)], (some (12, true))⟩,
  ⟨(some 16), .pick (.tmp 12) (.tmp 15) (.const (.bool false)), none⟩,
  ⟨(some 4), .mv (.tmp 16), none⟩,
  ⟨(some 5), .mv (.const (.bool true)), none⟩])
 (.ret)))
def r_impl_IsWorthProof : List ARes := [.tmp 4, .tmp 5]
theorem ok_impl_IsWorthProof : FnOk Try.prog 15 17 c_impl_IsWorthProof r_impl_IsWorthProof := ⟨⟨Try.f15, _, Try.func15, by kernel_rfl, rfl, rfl, by kernel_rfl, by kernel_rfl⟩⟩
def c_spec_IsWorthProof : ACode := .seq (.reg [⟨(some 2), .box 26 (.tmp 0), none⟩,
  ⟨(some 4), .mv (.const (.bool false)), none⟩,
  ⟨(some 5), .mv (.const (.bool false)), none⟩])
 (.seq (.seq (.reg [⟨(some 8), .ld (some 6) (.tmp 2), none⟩,
  ⟨(some 9), .call (.func 44) [(.tmp 8)], none⟩,
  ⟨(some 10), .un .not (.tmp 9), none⟩])
 (.cond (.tmp 10) (.seq (.reg [⟨(some 4), .mv (.const (.bool false)), none⟩,
  ⟨(some 5), .mv (.const (.bool false)), none⟩])
 (.ret)) (.skip)))
 (.seq (.seq (.reg [⟨(some 11), .ld (some 6) (.tmp 2), none⟩,
  ⟨(some 12), .mv (.tmp 1), none⟩,
  ⟨(some 13), .call (.func 45) [(.tmp 11), (.tmp 12)], none⟩,
  ⟨(some 14), .un .not (.tmp 13), none⟩])
 (.cond (.tmp 14) (.seq (.reg [⟨(some 4), .mv (.const (.bool false)), none⟩,
  ⟨(some 5), .mv (.const (.bool true)), none⟩])
 (.ret)) (.skip)))
 (.seq (.seq (.reg [⟨(some 6), .mv (.const (.int .i64 0)), none⟩])
 (.block 0 (.loop (.seq (.seq (.reg [⟨(some 15), .mv (.tmp 6), none⟩,
  ⟨(some 16), .mv (.tmp 1), none⟩,
  ⟨(some 17), .fad 0 (.tmp 2), none⟩,
  ⟨(some 18), .ld none (.tmp 17), none⟩,
  ⟨(some 19), .iad 1 (.tmp 16) (.tmp 18), none⟩,
  ⟨(some 20), .ld none (.tmp 19), none⟩,
  ⟨(some 21), .len (.tmp 20), none⟩,
  ⟨(some 22), .bin .lss (.tmp 15) (.tmp 21), none⟩])
 (.cond (.tmp 22) (.skip) (.exit 0)))
 (.seq (.block 1 (.seq (.reg [⟨(some 25), .mv (.tmp 1), none⟩,
  ⟨(some 26), .fad 0 (.tmp 2), none⟩,
  ⟨(some 27), .ld none (.tmp 26), none⟩,
  ⟨(some 28), .iad 1 (.tmp 25) (.tmp 27), none⟩,
  ⟨(some 29), .ld none (.tmp 28), none⟩,
  ⟨(some 30), .mv (.tmp 6), none⟩,
  ⟨(some 31), .iad 1 (.tmp 29) (.tmp 30), none⟩,
  ⟨(some 32), .ld none (.tmp 31), none⟩,
  ⟨(some 33), .bin .gtr (.tmp 32) (.const (.int .i64 0)), none⟩])
 (.cond (.tmp 33) (.seq (.reg [⟨(some 4), .mv (.const (.bool false)), none⟩,
  ⟨(some 5), .mv (.const (.bool true)), none⟩])
 (.ret)) (.skip))))
 (.reg [⟨(some 23), .mv (.tmp 6), none⟩,
  ⟨(some 24), .bin .add (.tmp 23) (.const (.int .i64 1)), none⟩,
  ⟨(some 6), .mv (.tmp 24), none⟩]))))))
 (.seq (.seq (.reg [⟨(some 7), .mv (.const (.int .i64 0)), none⟩])
 (.block 2 (.loop (.seq (.seq (.reg [⟨(some 34), .mv (.tmp 7), none⟩,
  ⟨(some 35), .fad 0 (.tmp 2), none⟩,
  ⟨(some 36), .ld none (.tmp 35), none⟩,
  ⟨(some 37), .bin .lss (.tmp 34) (.tmp 36), none⟩])
 (.cond (.tmp 37) (.skip) (.exit 2)))
 (.seq (.block 3 (.seq (.reg [⟨(some 40), .ld (some 6) (.tmp 2), none⟩,
  ⟨(some 41), .mv (.tmp 1), none⟩,
  ⟨(some 42), .mv (.tmp 7), none⟩,
  ⟨(some 43), .call (.func 46) [(.tmp 40), (.tmp 41), (.tmp 42)], none⟩,
  ⟨(some 44), .un .not (.tmp 43), none⟩])
 (.cond (.tmp 44) (.seq (.reg [⟨(some 4), .mv (.const (.bool false)), none⟩,
  ⟨(some 5), .mv (.const (.bool true)), none⟩])
 (.ret)) (.skip))))
 (.reg [⟨(some 38), .mv (.tmp 7), none⟩,
  ⟨(some 39), .bin .add (.tmp 38) (.const (.int .i64 1)), none⟩,
  ⟨(some 7), .mv (.tmp 39), none⟩]))))))
 (.seq (.reg [⟨(some 4), .mv (.const (.bool true)), none⟩,
  ⟨(some 5), .mv (.const (.bool true)), none⟩])
 (.ret))))))
def r_spec_IsWorthProof : List ARes := [.tmp 4, .tmp 5]
theorem ok_spec_IsWorthProof : FnOk Try.prog 16 45 c_spec_IsWorthProof r_spec_IsWorthProof := ⟨⟨Try.f16, _, Try.func16, by kernel_rfl, rfl, rfl, by kernel_rfl, by kernel_rfl⟩⟩
def c_impl_WorthTable : ACode := .seq (.reg [⟨(some 1), .box 26 (.tmp 0), none⟩,
  ⟨(some 2), .mv (.const (.slice none 0 0)), none⟩,
  ⟨(some 3), .mv (.const (.bool false)), none⟩])
 (.seq (.seq (.reg [⟨(some 4), .ld (some 6) (.tmp 1), none⟩,
  ⟨(some 5), .call (.func 41) [(.tmp 4)], none⟩,
  ⟨(some 6), .un .not (.tmp 5), none⟩])
 (.cond (.tmp 6) (.seq (.reg [⟨(some 7), .bsl 24 1 0 [] [], none⟩,
  ⟨(some 2), .mv (.tmp 7), none⟩,
  ⟨(some 3), .mv (.const (.bool false)), none⟩])
 (.ret)) (.skip)))
 (.seq (.reg [⟨(some 8), .ld (some 6) (.tmp 1), none⟩,
  ⟨(some 9), .call (.func 29) [(.tmp 8)], none⟩,
  ⟨(some 2), .mv (.tmp 9), none⟩,
  ⟨(some 3), .mv (.const (.bool true)), none⟩])
 (.ret)))
def r_impl_WorthTable : List ARes := [.tmp 2, .tmp 3]
theorem ok_impl_WorthTable : FnOk Try.prog 17 10 c_impl_WorthTable r_impl_WorthTable := ⟨⟨Try.f17, _, Try.func17, by kernel_rfl, rfl, rfl, by kernel_rfl, by kernel_rfl⟩⟩
def c_spec_WorthTable : ACode := .seq (.reg [⟨(some 1), .box 26 (.tmp 0), none⟩,
  ⟨(some 2), .mv (.const (.slice none 0 0)), none⟩,
  ⟨(some 3), .mv (.const (.bool false)), none⟩])
 (.seq (.seq (.reg [⟨(some 4), .ld (some 6) (.tmp 1), none⟩,
  ⟨(some 5), .call (.func 44) [(.tmp 4)], none⟩,
  ⟨(some 6), .un .not (.tmp 5), none⟩])
 (.cond (.tmp 6) (.seq (.reg [⟨(some 7), .bsl 24 1 0 [] [], none⟩,
  ⟨(some 2), .mv (.tmp 7), none⟩,
  ⟨(some 3), .mv (.const (.bool false)), none⟩])
 (.ret)) (.skip)))
 (.seq (.reg [⟨(some 8), .ld (some 6) (.tmp 1), none⟩,
  ⟨(some 9), .call (.func 33) [(.tmp 8)], none⟩,
  ⟨(some 2), .mv (.tmp 9), none⟩,
  ⟨(some 3), .mv (.const (.bool true)), none⟩])
 (.ret)))
def r_spec_WorthTable : List ARes := [.tmp 2, .tmp 3]
theorem ok_spec_WorthTable : FnOk Try.prog 18 10 c_spec_WorthTable r_spec_WorthTable := ⟨⟨Try.f18, _, Try.func18, by kernel_rfl, rfl, rfl, by kernel_rfl, by kernel_rfl⟩⟩
def c_impl_BestLevels : ACode := .seq (.reg [⟨(some 1), .box 26 (.tmp 0), none⟩,
  ⟨(some 2), .mv (.const (.slice none 0 0)), none⟩,
  ⟨(some 3), .mv (.const (.bool false)), none⟩])
 (.seq (.seq (.reg [⟨(some 7), .ld (some 6) (.tmp 1), none⟩,
  ⟨(some 8), .call (.func 41) [(.tmp 7)], none⟩,
  ⟨(some 9), .un .not (.tmp 8), none⟩])
 (.cond (.tmp 9) (.seq (.reg [⟨(some 10), .bsl 49 2 0 [] [], none⟩,
  ⟨(some 2), .mv (.tmp 10), none⟩,
  ⟨(some 3), .mv (.const (.bool false)), none⟩])
 (.ret)) (.skip)))
 (.seq (.reg [⟨(some 11), .ld (some 6) (.tmp 1), none⟩,
  ⟨(some 12), .call (.func 29) [(.tmp 11)], none⟩,
  ⟨(some 4), .mv (.tmp 12), none⟩])
 (.seq (.reg [⟨(some 13), .bsl 49 2 0 [] [], none⟩,
  ⟨(some 5), .mv (.tmp 13), none⟩])
 (.seq (.seq (.reg [⟨(some 14), .fad 0 (.tmp 1), none⟩,
  ⟨(some 15), .ld none (.tmp 14), none⟩,
  ⟨(some 16), .mv (.const (.int .i64 0)), none⟩])
 (.block 0 (.loop (.seq (.reg [⟨(some 17), .bin .lss (.tmp 16) (.tmp 15), none⟩])
 (.seq (.cond (.tmp 17) (.skip) (.exit 0))
 (.seq (.block 1 (.seq (.reg [⟨(some 18), .mv (.tmp 16), none⟩,
  ⟨(some 6), .mv (.tmp 18), none⟩])
 (.reg [⟨(some 19), .mv (.tmp 5), none⟩,
  ⟨(some 20), .ld (some 6) (.tmp 1), none⟩,
  ⟨(some 21), .mv (.tmp 6), none⟩,
  ⟨(some 22), .mv (.tmp 4), none⟩,
  ⟨(some 23), .mv (.tmp 6), none⟩,
  ⟨(some 24), .bin .add (.tmp 23) (.const (.int .i64 1)), none⟩,
  ⟨(some 25), .iad 1 (.tmp 22) (.tmp 24), none⟩,
  ⟨(some 26), .ld none (.tmp 25), none⟩,
  ⟨(some 27), .rcall (.func 47) [(.tmp 20), (.tmp 21), (.tmp 26)], none⟩,
  ⟨(some 28), .bsl 49 2 1 [(.int .i64 0), (.int .i64 0)] [(0, 2, (.tmp 27))], none⟩,
  ⟨(some 29), .app 49 2 16 (.tmp 19) (.tmp 28), none⟩,
  ⟨(some 5), .mv (.tmp 29), none⟩])))
 (.reg [⟨(some 30), .bin .add (.tmp 16) (.const (.int .i64 1)), none⟩,
  ⟨(some 16), .mv (.tmp 30), none⟩])))))))
 (.seq (.reg [⟨(some 31), .mv (.tmp 5), none⟩,
  ⟨(some 2), .mv (.tmp 31), none⟩,
  ⟨(some 3), .mv (.const (.bool true)), none⟩])
 (.ret))))))
def r_impl_BestLevels : List ARes := [.tmp 2, .tmp 3]
theorem ok_impl_BestLevels : FnOk Try.prog 20 32 c_impl_BestLevels r_impl_BestLevels := ⟨⟨Try.f20, _, Try.func20, by kernel_rfl, rfl, rfl, by kernel_rfl, by kernel_rfl⟩⟩
def c_spec_BestLevels : ACode := .seq (.reg [⟨(some 1), .box 26 (.tmp 0), none⟩,
  ⟨(some 2), .mv (.const (.slice none 0 0)), none⟩,
  ⟨(some 3), .mv (.const (.bool false)), none⟩])
 (.seq (.reg [⟨(some 7), .bsl 49 2 0 [] [], none⟩,
  ⟨(some 4), .mv (.tmp 7), none⟩])
 (.seq (.seq (.reg [⟨(some 8), .ld (some 6) (.tmp 1), none⟩,
  ⟨(some 9), .call (.func 44) [(.tmp 8)], none⟩,
  ⟨(some 10), .un .not (.tmp 9), none⟩])
 (.cond (.tmp 10) (.seq (.reg [⟨(some 11), .mv (.tmp 4), none⟩,
  ⟨(some 2), .mv (.tmp 11), none⟩,
  ⟨(some 3), .mv (.const (.bool false)), none⟩])
 (.ret)) (.skip)))
 (.seq (.reg [⟨(some 12), .ld (some 6) (.tmp 1), none⟩,
  ⟨(some 13), .call (.func 33) [(.tmp 12)], none⟩,
  ⟨(some 5), .mv (.tmp 13), none⟩])
 (.seq (.seq (.reg [⟨(some 6), .mv (.const (.int .i64 0)), none⟩])
 (.block 0 (.loop (.seq (.seq (.reg [⟨(some 14), .mv (.tmp 6), none⟩,
  ⟨(some 15), .fad 0 (.tmp 1), none⟩,
  ⟨(some 16), .ld none (.tmp 15), none⟩,
  ⟨(some 17), .bin .lss (.tmp 14) (.tmp 16), none⟩])
 (.cond (.tmp 17) (.skip) (.exit 0)))
 (.seq (.block 1 (.reg [⟨(some 20), .mv (.tmp 4), none⟩,
  ⟨(some 21), .ld (some 6) (.tmp 1), none⟩,
  ⟨(some 22), .mv (.tmp 5), none⟩,
  ⟨(some 23), .mv (.tmp 6), none⟩,
  ⟨(some 24), .call (.func 48) [(.tmp 21), (.tmp 22), (.tmp 23)], none⟩,
  ⟨(some 25), .bsl 49 2 1 [(.int .i64 0), (.int .i64 0)] [(0, 2, (.tmp 24))], none⟩,
  ⟨(some 26), .app 49 2 16 (.tmp 20) (.tmp 25), none⟩,
  ⟨(some 4), .mv (.tmp 26), none⟩]))
 (.reg [⟨(some 18), .mv (.tmp 6), none⟩,
  ⟨(some 19), .bin .add (.tmp 18) (.const (.int .i64 1)), none⟩,
  ⟨(some 6), .mv (.tmp 19), none⟩]))))))
 (.seq (.reg [⟨(some 27), .mv (.tmp 4), none⟩,
  ⟨(some 2), .mv (.tmp 27), none⟩,
  ⟨(some 3), .mv (.const (.bool true)), none⟩])
 (.ret))))))
def r_spec_BestLevels : List ARes := [.tmp 2, .tmp 3]
theorem ok_spec_BestLevels : FnOk Try.prog 21 28 c_spec_BestLevels r_spec_BestLevels := ⟨⟨Try.f21, _, Try.func21, by kernel_rfl, rfl, rfl, by kernel_rfl, by kernel_rfl⟩⟩
def c_impl_isTurn : ACode := .seq (.reg [⟨(some 2), .box 26 (.tmp 0), none⟩,
  ⟨(some 4), .mv (.const (.bool false)), none⟩])
 (.seq (.reg [⟨(some 5), .ld (some 6) (.tmp 2), none⟩,
  ⟨(some 6), .call (.func 41) [(.tmp 5)], none⟩,
  ⟨(some 7), .mv (.tmp 6), none⟩,
  ⟨(some 8), .mv (.tmp 1), (some (7, true))⟩,
  ⟨(some 9), .fad 0 (.tmp 2), (some (7, true))⟩,
  ⟨(some 10), .ld none (.tmp 9), (some (7, true))⟩,
  ⟨(some 11), .bin .sub (.tmp 10) (.const (.int .i64 1)), (some (7, true))⟩,
  ⟨(some 12), .call (.func 38) [(.tmp 8), (.tmp 11)], (some (7, true))⟩,
  ⟨(some 13), .pick (.tmp 7) (.tmp 12) (.const (.bool false)), none⟩,
  ⟨(some 4), .mv (.tmp 13), none⟩])
 (.ret))
def r_impl_isTurn : List ARes := [.tmp 4]
theorem ok_impl_isTurn : FnOk Try.prog 26 14 c_impl_isTurn r_impl_isTurn := ⟨⟨Try.f26, _, Try.func26, by kernel_rfl, rfl, rfl, by kernel_rfl, by kernel_rfl⟩⟩
def c_impl_isLevel : ACode := .seq (.reg [⟨(some 2), .mv (.const (.bool false)), none⟩])
 (.seq (.reg [⟨(some 3), .mv (.tmp 0), none⟩,
  ⟨(some 4), .call (.func 52) [(.tmp 3), (.const (.int .i64 10))], none⟩,
  ⟨(some 2), .mv (.tmp 4), none⟩])
 (.ret))
def r_impl_isLevel : List ARes := [.tmp 2]
theorem ok_impl_isLevel : FnOk Try.prog 27 5 c_impl_isLevel r_impl_isLevel := ⟨⟨Try.f27, _, Try.func27, by kernel_rfl, rfl, rfl, by kernel_rfl, by kernel_rfl⟩⟩
def c_impl_bestMove : ACode := .seq (.reg [⟨(some 4), .box 26 (.tmp 0), none⟩,
  ⟨(some 8), .alc 60 [(.int .i64 0), (.int .i64 0), (.int .i64 0)], none⟩])
 (.seq (.reg [⟨(some 14), .mv (.tmp 1), none⟩,
  ⟨(some 15), .mv (.tmp 2), none⟩,
  ⟨(some 16), .mv (.tmp 2), none⟩,
  ⟨(some 17), .ld (some 6) (.tmp 4), none⟩,
  ⟨(some 18), .call (.func 53) [(.tmp 17)], none⟩,
  ⟨(some 19), .mmx true (.tmp 16) (.tmp 18), none⟩,
  ⟨(some 20), .bld [(.int .i64 0), (.int .i64 0), (.int .i64 0)] [(0, 1, (.tmp 14)), (1, 1, (.tmp 15)), (2, 1, (.tmp 19))], none⟩,
  ⟨(some 9), .alc 60 [(.int .i64 0), (.int .i64 0), (.int .i64 0)], none⟩,
  ⟨none, .st 3 (.tmp 9) (.tmp 20), none⟩])
 (.seq (.reg [⟨(some 21), .ld (some 6) (.tmp 4), none⟩,
  ⟨(some 22), .ld (some 3) (.tmp 9), none⟩,
  ⟨(some 23), .mv (.tmp 3), none⟩,
  ⟨(some 24), .call (.func 54) [(.tmp 21), (.tmp 22), (.tmp 23)], none⟩,
  ⟨(some 10), .mv (.tmp 24), none⟩])
 (.seq (.seq (.reg [⟨(some 25), .fad 2 (.tmp 9), none⟩,
  ⟨(some 26), .ld none (.tmp 25), none⟩,
  ⟨(some 27), .bin .add (.tmp 26) (.const (.int .i64 1)), none⟩,
  ⟨(some 11), .mv (.tmp 27), none⟩])
 (.block 0 (.loop (.seq (.seq (.reg [⟨(some 28), .mv (.tmp 11), none⟩,
  ⟨(some 29), .bin .leq (.tmp 28) (.const (.int .i64 10)), none⟩])
 (.cond (.tmp 29) (.skip) (.exit 0)))
 (.seq (.block 1 (.seq (.reg [⟨(some 32), .mv (.tmp 1), none⟩,
  ⟨(some 33), .mv (.tmp 2), none⟩,
  ⟨(some 34), .mv (.tmp 11), none⟩,
  ⟨(some 35), .bld [(.int .i64 0), (.int .i64 0), (.int .i64 0)] [(0, 1, (.tmp 32)), (1, 1, (.tmp 33)), (2, 1, (.tmp 34))], none⟩,
  ⟨(some 12), .alc 60 [(.int .i64 0), (.int .i64 0), (.int .i64 0)], none⟩,
  ⟨none, .st 3 (.tmp 12) (.tmp 35), none⟩])
 (.seq (.reg [⟨(some 36), .ld (some 6) (.tmp 4), none⟩,
  ⟨(some 37), .ld (some 3) (.tmp 12), none⟩,
  ⟨(some 38), .mv (.tmp 3), none⟩,
  ⟨(some 39), .call (.func 54) [(.tmp 36), (.tmp 37), (.tmp 38)], none⟩,
  ⟨(some 13), .mv (.tmp 39), none⟩])
 (.seq (.reg [⟨(some 40), .mv (.tmp 13), none⟩,
  ⟨(some 41), .mv (.tmp 10), none⟩,
  ⟨(some 42), .bin .lss (.tmp 40) (.tmp 41), none⟩])
 (.cond (.tmp 42) (.reg [⟨(some 43), .ld (some 3) (.tmp 12), none⟩,
  ⟨(some 44), .mv (.tmp 13), none⟩,
  ⟨none, .st 3 (.tmp 9) (.tmp 43), none⟩,
  ⟨(some 10), .mv (.tmp 44), none⟩]) (.skip))))))
 (.reg [⟨(some 30), .mv (.tmp 11), none⟩,
  ⟨(some 31), .bin .add (.tmp 30) (.const (.int .i64 1)), none⟩,
  ⟨(some 11), .mv (.tmp 31), none⟩]))))))
 (.seq (.reg [⟨(some 45), .ld (some 3) (.tmp 9), none⟩,
  ⟨none, .st 3 (.tmp 8) (.tmp 45), none⟩])
 (.ret)))))
def r_impl_bestMove : List ARes := [.cell 8 (some 3)]
theorem ok_impl_bestMove : FnOk Try.prog 28 46 c_impl_bestMove r_impl_bestMove := ⟨⟨Try.f28, _, Try.func28, by kernel_rfl, rfl, rfl, by kernel_rfl, by kernel_rfl⟩⟩
def c_impl_worthTable : ACode := .seq (.reg [⟨(some 1), .box 26 (.tmp 0), none⟩,
  ⟨(some 2), .mv (.const (.slice none 0 0)), none⟩])
 (.seq (.reg [⟨(some 3), .ld (some 6) (.tmp 1), none⟩,
  ⟨(some 4), .mkf 56 [] [(.tmp 1)], none⟩,
  ⟨(some 5), .call (.func 55) [(.tmp 3), (.tmp 4)], none⟩,
  ⟨(some 2), .mv (.tmp 5), none⟩])
 (.ret))
def r_impl_worthTable : List ARes := [.tmp 2]
theorem ok_impl_worthTable : FnOk Try.prog 29 6 c_impl_worthTable r_impl_worthTable := ⟨⟨Try.f29, _, Try.func29, by kernel_rfl, rfl, rfl, by kernel_rfl, by kernel_rfl⟩⟩
def c_spec_l6Turn : ACode := .seq (.reg [⟨(some 2), .box 26 (.tmp 0), none⟩,
  ⟨(some 4), .mv (.const (.bool false)), none⟩])
 (.seq (.reg [⟨(some 5), .ld (some 6) (.tmp 2), none⟩,
  ⟨(some 6), .call (.func 44) [(.tmp 5)], none⟩,
  ⟨(some 7), .mv (.tmp 6), none⟩,
  ⟨(some 8), .mv (.tmp 1), (some (7, true))⟩,
  ⟨(some 9), .fad 0 (.tmp 2), (some (7, true))⟩,
  ⟨(some 10), .ld none (.tmp 9), (some (7, true))⟩,
  ⟨(some 11), .bin .sub (.tmp 10) (.const (.int .i64 1)), (some (7, true))⟩,
  ⟨(some 12), .call (.func 40) [(.tmp 8), (.const (.int .i64 0)), (.tmp 11)], (some (7, true))⟩,
  ⟨(some 13), .pick (.tmp 7) (.tmp 12) (.const (.bool false)), none⟩,
  ⟨(some 4), .mv (.tmp 13), none⟩])
 (.ret))
def r_spec_l6Turn : List ARes := [.tmp 4]
theorem ok_spec_l6Turn : FnOk Try.prog 30 14 c_spec_l6Turn r_spec_l6Turn := ⟨⟨Try.f30, _, Try.func30, by kernel_rfl, rfl, rfl, by kernel_rfl, by kernel_rfl⟩⟩
def c_spec_l6Level : ACode := .seq (.reg [⟨(some 2), .mv (.const (.bool false)), none⟩])
 (.seq (.reg [⟨(some 3), .mv (.tmp 0), none⟩,
  ⟨(some 4), .call (.func 40) [(.tmp 3), (.const (.int .i64 (-10))), (.const (.int .i64 10))], none⟩,
  ⟨(some 2), .mv (.tmp 4), none⟩])
 (.ret))
def r_spec_l6Level : List ARes := [.tmp 2]
theorem ok_spec_l6Level : FnOk Try.prog 31 5 c_spec_l6Level r_spec_l6Level := ⟨⟨Try.f31, _, Try.func31, by kernel_rfl, rfl, rfl, by kernel_rfl, by kernel_rfl⟩⟩
def c_spec_l6Best : ACode := .seq (.reg [⟨(some 4), .box 26 (.tmp 0), none⟩,
  ⟨(some 8), .mv (.const (.int .i64 0)), none⟩,
  ⟨(some 9), .mv (.const (.int .i64 0)), none⟩])
 (.seq (.reg [⟨(some 10), .mv (.const (.int .i64 0)), none⟩,
  ⟨(some 11), .mv (.const (.int .i64 0)), none⟩])
 (.seq (.seq (.reg [⟨(some 12), .mv (.const (.int .i64 10)), none⟩])
 (.block 0 (.loop (.seq (.seq (.reg [⟨(some 14), .mv (.tmp 12), none⟩,
  ⟨(some 15), .mv (.tmp 2), none⟩,
  ⟨(some 16), .ld (some 6) (.tmp 4), none⟩,
  ⟨(some 17), .call (.func 58) [(.tmp 16)], none⟩,
  ⟨(some 18), .call (.func 57) [(.tmp 15), (.tmp 17)], none⟩,
  ⟨(some 19), .bin .geq (.tmp 14) (.tmp 18), none⟩])
 (.cond (.tmp 19) (.skip) (.exit 0)))
 (.seq (.block 1 (.seq (.reg [⟨(some 22), .ld (some 6) (.tmp 4), none⟩,
  ⟨(some 23), .mv (.tmp 2), none⟩,
  ⟨(some 24), .mv (.tmp 12), none⟩,
  ⟨(some 26), .ld (some 6) (.tmp 4), none⟩,
  ⟨(some 27), .mv (.tmp 3), none⟩,
  ⟨(some 30), .ld (some 6) (.tmp 4), none⟩,
  ⟨(some 31), .mv (.tmp 1), none⟩,
  ⟨(some 32), .mv (.tmp 12), none⟩,
  ⟨(some 33), .mv (.tmp 3), none⟩,
  ⟨(some 25), .rcall (.func 59) [(.tmp 22), (.tmp 23), (.tmp 24)], none⟩,
  ⟨(some 28), .rcall (.func 60) [(.tmp 26), (.tmp 27)], none⟩,
  ⟨(some 29), .bin .mul (.tmp 25) (.tmp 28), none⟩,
  ⟨(some 34), .rcall (.func 61) [(.tmp 30), (.tmp 31), (.tmp 32), (.tmp 33)], none⟩,
  ⟨(some 35), .bin .add (.tmp 29) (.tmp 34), none⟩,
  ⟨(some 13), .mv (.tmp 35), none⟩])
 (.seq (.reg [⟨(some 36), .mv (.tmp 12), none⟩,
  ⟨(some 37), .bin .eql (.tmp 36) (.const (.int .i64 10)), none⟩,
  ⟨(some 38), .mv (.tmp 37), none⟩,
  ⟨(some 39), .mv (.tmp 13), (some (38, false))⟩,
  ⟨(some 40), .mv (.tmp 11), (some (38, false))⟩,
  ⟨(some 41), .bin .leq (.tmp 39) (.tmp 40), (some (38, false))⟩,
  ⟨(some 42), .pick (.tmp 38) (.const (.bool true)) (.tmp 41), none⟩])
 (.cond (.tmp 42) (.seq (.reg [⟨(some 43), .mv (.tmp 12), none⟩,
  ⟨(some 10), .mv (.tmp 43), none⟩])
 (.reg [⟨(some 44), .mv (.tmp 13), none⟩,
  ⟨(some 11), .mv (.tmp 44), none⟩])) (.skip)))))
 (.reg [⟨(some 20), .mv (.tmp 12), none⟩,
  ⟨(some 21), .bin .sub (.tmp 20) (.const (.int .i64 1)), none⟩,
  ⟨(some 12), .mv (.tmp 21), none⟩]))))))
 (.seq (.reg [⟨(some 45), .mv (.tmp 10), none⟩,
  ⟨(some 46), .mv (.tmp 11), none⟩,
  ⟨(some 8), .mv (.tmp 45), none⟩,
  ⟨(some 9), .mv (.tmp 46), none⟩])
 (.ret))))
def r_spec_l6Best : List ARes := [.tmp 8, .tmp 9]
theorem ok_spec_l6Best : FnOk Try.prog 32 47 c_spec_l6Best r_spec_l6Best := ⟨⟨Try.f32, _, Try.func32, by kernel_rfl, rfl, rfl, by kernel_rfl, by kernel_rfl⟩⟩
def c_spec_l6Worths : ACode := .seq (.reg [⟨(some 1), .box 26 (.tmp 0), none⟩,
  ⟨(some 2), .mv (.const (.slice none 0 0)), none⟩])
 (.seq (.reg [⟨(some 9), .mks 3 8 [(.int .i64 0)] (.const (.int .i64 21)) (.const (.int .i64 21)), none⟩,
  ⟨(some 10), .bsl 24 1 1 [(.slice none 0 0)] [(0, 1, (.tmp 9))], none⟩,
  ⟨(some 3), .mv (.tmp 10), none⟩])
 (.seq (.seq (.reg [⟨(some 11), .fad 0 (.tmp 1), none⟩,
  ⟨(some 12), .ld none (.tmp 11), none⟩,
  ⟨(some 13), .bin .sub (.tmp 12) (.const (.int .i64 1)), none⟩,
  ⟨(some 4), .mv (.tmp 13), none⟩])
 (.block 0 (.loop (.seq (.seq (.reg [⟨(some 14), .mv (.tmp 4), none⟩,
  ⟨(some 15), .bin .geq (.tmp 14) (.const (.int .i64 0)), none⟩])
 (.cond (.tmp 15) (.skip) (.exit 0)))
 (.seq (.block 1 (.seq (.reg [⟨(some 18), .bsl 3 1 0 [] [], none⟩,
  ⟨(some 5), .mv (.tmp 18), none⟩])
 (.seq (.seq (.reg [⟨(some 6), .mv (.const (.int .i64 (-10))), none⟩])
 (.block 2 (.loop (.seq (.seq (.reg [⟨(some 19), .mv (.tmp 6), none⟩,
  ⟨(some 20), .bin .leq (.tmp 19) (.const (.int .i64 10)), none⟩])
 (.cond (.tmp 20) (.skip) (.exit 2)))
 (.seq (.block 3 (.seq (.reg [⟨(some 24), .ld (some 6) (.tmp 1), none⟩,
  ⟨(some 25), .mv (.tmp 3), none⟩,
  ⟨(some 26), .iad 1 (.tmp 25) (.const (.int .i64 0)), none⟩,
  ⟨(some 27), .ld none (.tmp 26), none⟩,
  ⟨(some 28), .mv (.tmp 6), none⟩,
  ⟨(some 29), .fad 0 (.tmp 1), none⟩,
  ⟨(some 30), .ld none (.tmp 29), none⟩,
  ⟨(some 31), .mv (.tmp 4), none⟩,
  ⟨(some 32), .bin .sub (.tmp 30) (.tmp 31), none⟩,
  ⟨(some 33), .rcall (.func 32) [(.tmp 24), (.tmp 27), (.tmp 28), (.tmp 32)], none⟩,
  ⟨(some 23), .mv (.tmp 33), none⟩,
  ⟨(some 34), .ext 0 (.tmp 23), none⟩,
  ⟨(some 35), .ext 1 (.tmp 23), none⟩,
  ⟨(some 7), .mv (.tmp 34), none⟩,
  ⟨(some 8), .mv (.tmp 35), none⟩])
 (.reg [⟨(some 36), .mv (.tmp 5), none⟩,
  ⟨(some 37), .mv (.tmp 8), none⟩,
  ⟨(some 38), .bsl 3 1 1 [(.int .i64 0)] [(0, 1, (.tmp 37))], none⟩,
  ⟨(some 39), .app 3 1 8 (.tmp 36) (.tmp 38), none⟩,
  ⟨(some 5), .mv (.tmp 39), none⟩])))
 (.reg [⟨(some 21), .mv (.tmp 6), none⟩,
  ⟨(some 22), .bin .add (.tmp 21) (.const (.int .i64 1)), none⟩,
  ⟨(some 6), .mv (.tmp 22), none⟩]))))))
 (.reg [⟨(some 40), .mv (.tmp 5), none⟩,
  ⟨(some 41), .bsl 24 1 1 [(.slice none 0 0)] [(0, 1, (.tmp 40))], none⟩,
  ⟨(some 42), .mv (.tmp 3), none⟩,
  ⟨(some 43), .app 24 1 24 (.tmp 41) (.tmp 42), none⟩,
  ⟨(some 3), .mv (.tmp 43), none⟩]))))
 (.reg [⟨(some 16), .mv (.tmp 4), none⟩,
  ⟨(some 17), .bin .sub (.tmp 16) (.const (.int .i64 1)), none⟩,
  ⟨(some 4), .mv (.tmp 17), none⟩]))))))
 (.seq (.reg [⟨(some 44), .mv (.tmp 3), none⟩,
  ⟨(some 2), .mv (.tmp 44), none⟩])
 (.ret))))
def r_spec_l6Worths : List ARes := [.tmp 2]
theorem ok_spec_l6Worths : FnOk Try.prog 33 45 c_spec_l6Worths r_spec_l6Worths := ⟨⟨Try.f33, _, Try.func33, by kernel_rfl, rfl, rfl, by kernel_rfl, by kernel_rfl⟩⟩
def c_impl_billsOf : ACode := .seq (.reg [⟨(some 3), .box 26 (.tmp 0), none⟩,
  ⟨(some 6), .mv (.const (.slice none 0 0)), none⟩])
 (.seq (.reg [⟨(some 9), .bsl 3 1 0 [] [], none⟩,
  ⟨(some 7), .mv (.tmp 9), none⟩])
 (.seq (.seq (.reg [⟨(some 10), .ld (some 6) (.tmp 3), none⟩,
  ⟨(some 11), .call (.func 53) [(.tmp 10)], none⟩,
  ⟨(some 8), .mv (.tmp 11), none⟩])
 (.block 0 (.loop (.seq (.seq (.reg [⟨(some 12), .mv (.tmp 8), none⟩,
  ⟨(some 13), .bin .leq (.tmp 12) (.const (.int .i64 10)), none⟩])
 (.cond (.tmp 13) (.skip) (.exit 0)))
 (.seq (.block 1 (.reg [⟨(some 16), .mv (.tmp 7), none⟩,
  ⟨(some 17), .fad 3 (.tmp 3), none⟩,
  ⟨(some 18), .ld none (.tmp 17), none⟩,
  ⟨(some 19), .mv (.tmp 8), none⟩,
  ⟨(some 20), .bin .mul (.tmp 18) (.tmp 19), none⟩,
  ⟨(some 21), .ld (some 6) (.tmp 3), none⟩,
  ⟨(some 22), .mv (.tmp 1), none⟩,
  ⟨(some 25), .ld (some 6) (.tmp 3), none⟩,
  ⟨(some 26), .mv (.tmp 1), none⟩,
  ⟨(some 27), .mv (.tmp 8), none⟩,
  ⟨(some 28), .mv (.tmp 2), none⟩,
  ⟨(some 23), .rcall (.func 62) [(.tmp 21), (.tmp 22)], none⟩,
  ⟨(some 24), .bin .mul (.tmp 20) (.tmp 23), none⟩,
  ⟨(some 29), .rcall (.func 63) [(.tmp 25), (.tmp 26), (.tmp 27), (.tmp 28)], none⟩,
  ⟨(some 30), .bin .add (.tmp 24) (.tmp 29), none⟩,
  ⟨(some 31), .bsl 3 1 1 [(.int .i64 0)] [(0, 1, (.tmp 30))], none⟩,
  ⟨(some 32), .app 3 1 8 (.tmp 16) (.tmp 31), none⟩,
  ⟨(some 7), .mv (.tmp 32), none⟩]))
 (.reg [⟨(some 14), .mv (.tmp 8), none⟩,
  ⟨(some 15), .bin .add (.tmp 14) (.const (.int .i64 1)), none⟩,
  ⟨(some 8), .mv (.tmp 15), none⟩]))))))
 (.seq (.reg [⟨(some 33), .mv (.tmp 7), none⟩,
  ⟨(some 6), .mv (.tmp 33), none⟩])
 (.ret))))
def r_impl_billsOf : List ARes := [.tmp 6]
theorem ok_impl_billsOf : FnOk Try.prog 34 34 c_impl_billsOf r_impl_billsOf := ⟨⟨Try.f34, _, Try.func34, by kernel_rfl, rfl, rfl, by kernel_rfl, by kernel_rfl⟩⟩
def c_spec_l6Bills : ACode := .seq (.reg [⟨(some 3), .box 26 (.tmp 0), none⟩,
  ⟨(some 6), .mv (.const (.slice none 0 0)), none⟩])
 (.seq (.reg [⟨(some 9), .bsl 3 1 0 [] [], none⟩,
  ⟨(some 7), .mv (.tmp 9), none⟩])
 (.seq (.seq (.reg [⟨(some 10), .ld (some 6) (.tmp 3), none⟩,
  ⟨(some 11), .call (.func 58) [(.tmp 10)], none⟩,
  ⟨(some 8), .mv (.tmp 11), none⟩])
 (.block 0 (.loop (.seq (.seq (.reg [⟨(some 12), .mv (.tmp 8), none⟩,
  ⟨(some 13), .bin .leq (.tmp 12) (.const (.int .i64 10)), none⟩])
 (.cond (.tmp 13) (.skip) (.exit 0)))
 (.seq (.block 1 (.reg [⟨(some 16), .mv (.tmp 7), none⟩,
  ⟨(some 17), .ld (some 6) (.tmp 3), none⟩,
  ⟨(some 18), .mv (.tmp 1), none⟩,
  ⟨(some 19), .mv (.tmp 2), none⟩,
  ⟨(some 20), .bin .add (.tmp 19) (.const (.int .i64 1)), none⟩,
  ⟨(some 21), .iad 1 (.tmp 18) (.tmp 20), none⟩,
  ⟨(some 22), .ld none (.tmp 21), none⟩,
  ⟨(some 23), .mv (.tmp 8), none⟩,
  ⟨(some 24), .fad 0 (.tmp 3), none⟩,
  ⟨(some 25), .ld none (.tmp 24), none⟩,
  ⟨(some 26), .mv (.tmp 2), none⟩,
  ⟨(some 27), .bin .sub (.tmp 25) (.tmp 26), none⟩,
  ⟨(some 28), .rcall (.func 64) [(.tmp 17), (.tmp 22), (.tmp 23), (.tmp 27)], none⟩,
  ⟨(some 29), .bsl 3 1 1 [(.int .i64 0)] [(0, 1, (.tmp 28))], none⟩,
  ⟨(some 30), .app 3 1 8 (.tmp 16) (.tmp 29), none⟩,
  ⟨(some 7), .mv (.tmp 30), none⟩]))
 (.reg [⟨(some 14), .mv (.tmp 8), none⟩,
  ⟨(some 15), .bin .add (.tmp 14) (.const (.int .i64 1)), none⟩,
  ⟨(some 8), .mv (.tmp 15), none⟩]))))))
 (.seq (.reg [⟨(some 31), .mv (.tmp 7), none⟩,
  ⟨(some 6), .mv (.tmp 31), none⟩])
 (.ret))))
def r_spec_l6Bills : List ARes := [.tmp 6]
theorem ok_spec_l6Bills : FnOk Try.prog 35 32 c_spec_l6Bills r_spec_l6Bills := ⟨⟨Try.f35, _, Try.func35, by kernel_rfl, rfl, rfl, by kernel_rfl, by kernel_rfl⟩⟩
def c_impl_areValues : ACode := .seq (.reg [⟨(some 2), .mv (.const (.bool false)), none⟩])
 (.seq (.reg [⟨(some 3), .mv (.func 65), none⟩])
 (.seq (.reg [⟨(some 4), .mv (.tmp 0), none⟩,
  ⟨(some 5), .mv (.tmp 3), none⟩,
  ⟨(some 6), .call (.func 66) [(.tmp 4), (.tmp 5)], none⟩,
  ⟨(some 7), .un .not (.tmp 6), none⟩,
  ⟨(some 2), .mv (.tmp 7), none⟩])
 (.ret)))
def r_impl_areValues : List ARes := [.tmp 2]
theorem ok_impl_areValues : FnOk Try.prog 37 8 c_impl_areValues r_impl_areValues := ⟨⟨Try.f37, _, Try.func37, by kernel_rfl, rfl, rfl, by kernel_rfl, by kernel_rfl⟩⟩
def c_impl_isWithin : ACode := .seq (.reg [⟨(some 4), .mv (.const (.bool false)), none⟩])
 (.seq (.reg [⟨(some 5), .mv (.tmp 0), none⟩,
  ⟨(some 6), .bin .geq (.tmp 5) (.const (.int .i64 0)), none⟩,
  ⟨(some 7), .mv (.tmp 6), none⟩,
  ⟨(some 8), .mv (.tmp 0), (some (7, true))⟩,
  ⟨(some 9), .mv (.tmp 1), (some (7, true))⟩,
  ⟨(some 10), .bin .leq (.tmp 8) (.tmp 9), (some (7, true))⟩,
  ⟨(some 11), .pick (.tmp 7) (.tmp 10) (.const (.bool false)), none⟩,
  ⟨(some 4), .mv (.tmp 11), none⟩])
 (.ret))
def r_impl_isWithin : List ARes := [.tmp 4]
theorem ok_impl_isWithin : FnOk Try.prog 38 12 c_impl_isWithin r_impl_isWithin := ⟨⟨Try.f38, _, Try.func38, by kernel_rfl, rfl, rfl, by kernel_rfl, by kernel_rfl⟩⟩
def c_impl_isConvexAt : ACode := .seq (.reg [⟨(some 6), .mv (.const (.bool false)), none⟩])
 (.seq (.seq (.reg [⟨(some 7), .mv (.const (.int .i64 1)), none⟩])
 (.block 0 (.loop (.seq (.seq (.reg [⟨(some 9), .mv (.tmp 7), none⟩,
  ⟨(some 10), .mv (.tmp 2), none⟩,
  ⟨(some 11), .bin .leq (.tmp 9) (.tmp 10), none⟩])
 (.cond (.tmp 11) (.skip) (.exit 0)))
 (.seq (.block 1 (.seq (.reg [⟨(some 8), .mv (.const (.int .i64 1)), none⟩])
 (.block 2 (.loop (.seq (.seq (.reg [⟨(some 14), .mv (.tmp 2), none⟩,
  ⟨(some 15), .mv (.tmp 8), none⟩,
  ⟨(some 16), .bin .add (.tmp 14) (.tmp 15), none⟩,
  ⟨(some 17), .mv (.tmp 0), none⟩,
  ⟨(some 18), .len (.tmp 17), none⟩,
  ⟨(some 19), .bin .lss (.tmp 16) (.tmp 18), none⟩])
 (.cond (.tmp 19) (.skip) (.exit 2)))
 (.seq (.block 3 (.seq (.reg [⟨(some 22), .mv (.tmp 7), none⟩,
  ⟨(some 23), .mv (.tmp 1), none⟩,
  ⟨(some 24), .mv (.tmp 0), none⟩,
  ⟨(some 25), .mv (.tmp 2), none⟩,
  ⟨(some 26), .mv (.tmp 8), none⟩,
  ⟨(some 27), .bin .add (.tmp 25) (.tmp 26), none⟩,
  ⟨(some 28), .iad 1 (.tmp 24) (.tmp 27), none⟩,
  ⟨(some 29), .ld none (.tmp 28), none⟩,
  ⟨(some 30), .bin .add (.tmp 23) (.tmp 29), none⟩,
  ⟨(some 31), .bin .mul (.tmp 22) (.tmp 30), none⟩,
  ⟨(some 32), .mv (.tmp 7), none⟩,
  ⟨(some 33), .mv (.tmp 0), none⟩,
  ⟨(some 34), .mv (.tmp 2), none⟩,
  ⟨(some 35), .iad 1 (.tmp 33) (.tmp 34), none⟩,
  ⟨(some 36), .ld none (.tmp 35), none⟩,
  ⟨(some 37), .bin .mul (.tmp 32) (.tmp 36), none⟩,
  ⟨(some 38), .mv (.tmp 8), none⟩,
  ⟨(some 39), .mv (.tmp 0), none⟩,
  ⟨(some 40), .mv (.tmp 2), none⟩,
  ⟨(some 41), .iad 1 (.tmp 39) (.tmp 40), none⟩,
  ⟨(some 42), .ld none (.tmp 41), none⟩,
  ⟨(some 43), .mv (.tmp 0), none⟩,
  ⟨(some 44), .mv (.tmp 2), none⟩,
  ⟨(some 45), .mv (.tmp 7), none⟩,
  ⟨(some 46), .bin .sub (.tmp 44) (.tmp 45), none⟩,
  ⟨(some 47), .iad 1 (.tmp 43) (.tmp 46), none⟩,
  ⟨(some 48), .ld none (.tmp 47), none⟩,
  ⟨(some 49), .bin .sub (.tmp 42) (.tmp 48), none⟩,
  ⟨(some 50), .bin .mul (.tmp 38) (.tmp 49), none⟩,
  ⟨(some 51), .bin .add (.tmp 37) (.tmp 50), none⟩,
  ⟨(some 52), .bin .lss (.tmp 31) (.tmp 51), none⟩])
 (.cond (.tmp 52) (.seq (.reg [⟨(some 6), .mv (.const (.bool false)), none⟩])
 (.ret)) (.skip))))
 (.reg [⟨(some 20), .mv (.tmp 8), none⟩,
  ⟨(some 21), .bin .add (.tmp 20) (.const (.int .i64 1)), none⟩,
  ⟨(some 8), .mv (.tmp 21), none⟩])))))))
 (.reg [⟨(some 12), .mv (.tmp 7), none⟩,
  ⟨(some 13), .bin .add (.tmp 12) (.const (.int .i64 1)), none⟩,
  ⟨(some 7), .mv (.tmp 13), none⟩]))))))
 (.seq (.reg [⟨(some 6), .mv (.const (.bool true)), none⟩])
 (.ret)))
def r_impl_isConvexAt : List ARes := [.tmp 6]
theorem ok_impl_isConvexAt : FnOk Try.prog 39 53 c_impl_isConvexAt r_impl_isConvexAt := ⟨⟨Try.f39, _, Try.func39, by kernel_rfl, rfl, rfl, by kernel_rfl, by kernel_rfl⟩⟩
def c_spec_l1In : ACode := .seq (.reg [⟨(some 6), .mv (.const (.bool false)), none⟩])
 (.seq (.reg [⟨(some 7), .mv (.tmp 0), none⟩,
  ⟨(some 8), .mv (.tmp 1), none⟩,
  ⟨(some 9), .bin .geq (.tmp 7) (.tmp 8), none⟩,
  ⟨(some 10), .mv (.tmp 9), none⟩,
  ⟨(some 11), .mv (.tmp 0), (some (10, true))⟩,
  ⟨(some 12), .mv (.tmp 2), (some (10, true))⟩,
  ⟨(some 13), .bin .leq (.tmp 11) (.tmp 12), (some (10, true))⟩,
  ⟨(some 14), .pick (.tmp 10) (.tmp 13) (.const (.bool false)), none⟩,
  ⟨(some 6), .mv (.tmp 14), none⟩])
 (.ret))
def r_spec_l1In : List ARes := [.tmp 6]
theorem ok_spec_l1In : FnOk Try.prog 40 15 c_spec_l1In r_spec_l1In := ⟨⟨Try.f40, _, Try.func40, by kernel_rfl, rfl, rfl, by kernel_rfl, by kernel_rfl⟩⟩
def c_impl_IsProcess : ACode := .seq (.reg [⟨(some 1), .box 26 (.tmp 0), none⟩,
  ⟨(some 2), .mv (.const (.bool false)), none⟩])
 (.seq (.reg [⟨(some 3), .fad 0 (.tmp 1), none⟩,
  ⟨(some 4), .ld none (.tmp 3), none⟩,
  ⟨(some 5), .call (.func 38) [(.tmp 4), (.const (.int .i64 5))], none⟩,
  ⟨(some 6), .mv (.tmp 5), none⟩,
  ⟨(some 7), .fad 1 (.tmp 1), (some (6, true))⟩,
  ⟨(some 8), .ld none (.tmp 7), (some (6, true))⟩,
  ⟨(some 9), .call (.func 67) [(.tmp 8), (.const (.int .i64 5)), (.const (.int .i64 4))], (some (6, true))⟩,
  ⟨(some 10), .pick (.tmp 6) (.tmp 9) (.const (.bool false)), none⟩,
  ⟨(some 11), .mv (.tmp 10), none⟩,
  ⟨(some 12), .fad 2 (.tmp 1), (some (11, true))⟩,
  ⟨(some 13), .ld none (.tmp 12), (some (11, true))⟩,
  ⟨(some 14), .call (.func 38) [(.tmp 13), (.const (.int .i64 99))], (some (11, true))⟩,
  ⟨(some 15), .pick (.tmp 11) (.tmp 14) (.const (.bool false)), none⟩,
  ⟨(some 16), .mv (.tmp 15), none⟩,
  ⟨(some 17), .fad 3 (.tmp 1), (some (16, true))⟩,
  ⟨(some 18), .ld none (.tmp 17), (some (16, true))⟩,
  ⟨(some 19), .call (.func 38) [(.tmp 18), (.const (.int .i64 9))], (some (16, true))⟩,
  ⟨(some 20), .pick (.tmp 16) (.tmp 19) (.const (.bool false)), none⟩,
  ⟨(some 21), .mv (.tmp 20), none⟩,
  ⟨(some 22), .fad 4 (.tmp 1), (some (21, true))⟩,
  ⟨(some 23), .ld none (.tmp 22), (some (21, true))⟩,
  ⟨(some 24), .call (.func 38) [(.tmp 23), (.const (.int .i64 9))], (some (21, true))⟩,
  ⟨(some 25), .pick (.tmp 21) (.tmp 24) (.const (.bool false)), none⟩,
  ⟨(some 26), .mv (.tmp 25), none⟩,
  ⟨(some 27), .fad 5 (.tmp 1), (some (26, true))⟩,
  ⟨(some 28), .ld none (.tmp 27), (some (26, true))⟩,
  ⟨(some 29), .call (.func 38) [(.tmp 28), (.const (.int .i64 9))], (some (26, true))⟩,
  ⟨(some 30), .pick (.tmp 26) (.tmp 29) (.const (.bool false)), none⟩,
  ⟨(some 2), .mv (.tmp 30), none⟩])
 (.ret))
def r_impl_IsProcess : List ARes := [.tmp 2]
theorem ok_impl_IsProcess : FnOk Try.prog 41 31 c_impl_IsProcess r_impl_IsProcess := ⟨⟨Try.f41, _, Try.func41, by kernel_rfl, rfl, rfl, by kernel_rfl, by kernel_rfl⟩⟩
def c_impl_isValueTable : ACode := .seq (.reg [⟨(some 2), .box 26 (.tmp 0), none⟩,
  ⟨(some 4), .mv (.const (.bool false)), none⟩])
 (.seq (.reg [⟨(some 5), .mv (.func 68), none⟩])
 (.seq (.reg [⟨(some 6), .mv (.tmp 1), none⟩,
  ⟨(some 7), .len (.tmp 6), none⟩,
  ⟨(some 8), .fad 0 (.tmp 2), none⟩,
  ⟨(some 9), .ld none (.tmp 8), none⟩,
  ⟨(some 10), .bin .add (.tmp 9) (.const (.int .i64 1)), none⟩,
  ⟨(some 11), .bin .eql (.tmp 7) (.tmp 10), none⟩,
  ⟨(some 12), .mv (.tmp 11), none⟩,
  ⟨(some 13), .mv (.tmp 1), (some (12, true))⟩,
  ⟨(some 14), .mv (.tmp 5), (some (12, true))⟩,
  ⟨(some 15), .call (.func 69) [(.tmp 13), (.tmp 14)], (some (12, true))⟩,
  ⟨(some 16), .un .not (.tmp 15), (some (12, true))⟩,
  ⟨(some 17), .pick (.tmp 12) (.tmp 16) (.const (.bool false)), none⟩,
  ⟨(some 18), .mv (.tmp 17), none⟩,
  ⟨(some 19), .mv (.tmp 1), (some (18, true))⟩,
  ⟨(some 20), .fad 0 (.tmp 2), (some (18, true))⟩,
  ⟨(some 21), .ld none (.tmp 20), (some (18, true))⟩,
  ⟨(some 22), .iad 1 (.tmp 19) (.tmp 21), (some (18, true))⟩,
  ⟨(some 23), .ld none (.tmp 22), (some (18, true))⟩,
  ⟨(some 24), .call (.func 70) [(.tmp 23)], (some (18, true))⟩,
  ⟨(some 25), .bin .leq (.tmp 24) (.const (.int .i64 0)), (some (18, true))⟩,
  ⟨(some 26), .pick (.tmp 18) (.tmp 25) (.const (.bool false)), none⟩,
  ⟨(some 4), .mv (.tmp 26), none⟩])
 (.ret)))
def r_impl_isValueTable : List ARes := [.tmp 4]
theorem ok_impl_isValueTable : FnOk Try.prog 42 27 c_impl_isValueTable r_impl_isValueTable := ⟨⟨Try.f42, _, Try.func42, by kernel_rfl, rfl, rfl, by kernel_rfl, by kernel_rfl⟩⟩
def c_impl_noMoveCostsLess : ACode := .seq (.reg [⟨(some 2), .box 26 (.tmp 0), none⟩,
  ⟨(some 4), .mv (.const (.bool false)), none⟩])
 (.scope (.seq (.seq (.reg [⟨(some 7), .ld (some 6) (.tmp 2), none⟩]) (.seq (.reg [⟨(some 9), .ld (some 6) (.tmp 2), none⟩]) (.seq (.reg [⟨(some 10), .fad 0 (.tmp 2), none⟩]) (.seq (.reg [⟨(some 11), .ld none (.tmp 10), none⟩]) (.both (.seq (.reg [⟨(some 8), .rcall (.func 71) [(.tmp 7), (.const (.int .i64 0))], none⟩]) (.both (.seq (.reg [⟨(some 12), .rcall (.func 71) [(.tmp 9), (.tmp 11)], none⟩]) (.both (.seq (.reg [⟨(some 5), .alc 60 [(.int .i64 0), (.int .i64 0), (.int .i64 0)], none⟩]) (.seq (.reg [⟨(some 6), .alc 60 [(.int .i64 0), (.int .i64 0), (.int .i64 0)], none⟩]) (.seq (.reg [⟨none, .st 3 (.tmp 5) (.tmp 8), none⟩]) (.seq (.reg [⟨none, .st 3 (.tmp 6) (.tmp 12), none⟩]) (.skip))))) (.seq (.reg [⟨(some 6), .alc 60 [(.int .i64 0), (.int .i64 0), (.int .i64 0)], none⟩]) (.seq (.reg [⟨(some 5), .alc 60 [(.int .i64 0), (.int .i64 0), (.int .i64 0)], none⟩]) (.seq (.reg [⟨none, .st 3 (.tmp 5) (.tmp 8), none⟩]) (.seq (.reg [⟨none, .st 3 (.tmp 6) (.tmp 12), none⟩]) (.skip))))))) (.both (.seq (.reg [⟨(some 5), .alc 60 [(.int .i64 0), (.int .i64 0), (.int .i64 0)], none⟩]) (.both (.seq (.reg [⟨(some 12), .rcall (.func 71) [(.tmp 9), (.tmp 11)], none⟩]) (.seq (.reg [⟨(some 6), .alc 60 [(.int .i64 0), (.int .i64 0), (.int .i64 0)], none⟩]) (.seq (.reg [⟨none, .st 3 (.tmp 5) (.tmp 8), none⟩]) (.seq (.reg [⟨none, .st 3 (.tmp 6) (.tmp 12), none⟩]) (.skip))))) (.seq (.reg [⟨(some 6), .alc 60 [(.int .i64 0), (.int .i64 0), (.int .i64 0)], none⟩]) (.seq (.reg [⟨(some 12), .rcall (.func 71) [(.tmp 9), (.tmp 11)], none⟩]) (.seq (.reg [⟨none, .st 3 (.tmp 5) (.tmp 8), none⟩]) (.seq (.reg [⟨none, .st 3 (.tmp 6) (.tmp 12), none⟩]) (.skip))))))) (.seq (.reg [⟨(some 6), .alc 60 [(.int .i64 0), (.int .i64 0), (.int .i64 0)], none⟩]) (.both (.seq (.reg [⟨(some 12), .rcall (.func 71) [(.tmp 9), (.tmp 11)], none⟩]) (.seq (.reg [⟨(some 5), .alc 60 [(.int .i64 0), (.int .i64 0), (.int .i64 0)], none⟩]) (.seq (.reg [⟨none, .st 3 (.tmp 5) (.tmp 8), none⟩]) (.seq (.reg [⟨none, .st 3 (.tmp 6) (.tmp 12), none⟩]) (.skip))))) (.seq (.reg [⟨(some 5), .alc 60 [(.int .i64 0), (.int .i64 0), (.int .i64 0)], none⟩]) (.seq (.reg [⟨(some 12), .rcall (.func 71) [(.tmp 9), (.tmp 11)], none⟩]) (.seq (.reg [⟨none, .st 3 (.tmp 5) (.tmp 8), none⟩]) (.seq (.reg [⟨none, .st 3 (.tmp 6) (.tmp 12), none⟩]) (.skip)))))))))) (.both (.seq (.reg [⟨(some 5), .alc 60 [(.int .i64 0), (.int .i64 0), (.int .i64 0)], none⟩]) (.both (.seq (.reg [⟨(some 8), .rcall (.func 71) [(.tmp 7), (.const (.int .i64 0))], none⟩]) (.both (.seq (.reg [⟨(some 12), .rcall (.func 71) [(.tmp 9), (.tmp 11)], none⟩]) (.seq (.reg [⟨(some 6), .alc 60 [(.int .i64 0), (.int .i64 0), (.int .i64 0)], none⟩]) (.seq (.reg [⟨none, .st 3 (.tmp 5) (.tmp 8), none⟩]) (.seq (.reg [⟨none, .st 3 (.tmp 6) (.tmp 12), none⟩]) (.skip))))) (.seq (.reg [⟨(some 6), .alc 60 [(.int .i64 0), (.int .i64 0), (.int .i64 0)], none⟩]) (.seq (.reg [⟨(some 12), .rcall (.func 71) [(.tmp 9), (.tmp 11)], none⟩]) (.seq (.reg [⟨none, .st 3 (.tmp 5) (.tmp 8), none⟩]) (.seq (.reg [⟨none, .st 3 (.tmp 6) (.tmp 12), none⟩]) (.skip))))))) (.seq (.reg [⟨(some 6), .alc 60 [(.int .i64 0), (.int .i64 0), (.int .i64 0)], none⟩]) (.seq (.reg [⟨(some 8), .rcall (.func 71) [(.tmp 7), (.const (.int .i64 0))], none⟩]) (.seq (.reg [⟨(some 12), .rcall (.func 71) [(.tmp 9), (.tmp 11)], none⟩]) (.seq (.reg [⟨none, .st 3 (.tmp 5) (.tmp 8), none⟩]) (.seq (.reg [⟨none, .st 3 (.tmp 6) (.tmp 12), none⟩]) (.skip)))))))) (.seq (.reg [⟨(some 6), .alc 60 [(.int .i64 0), (.int .i64 0), (.int .i64 0)], none⟩]) (.both (.seq (.reg [⟨(some 8), .rcall (.func 71) [(.tmp 7), (.const (.int .i64 0))], none⟩]) (.both (.seq (.reg [⟨(some 12), .rcall (.func 71) [(.tmp 9), (.tmp 11)], none⟩]) (.seq (.reg [⟨(some 5), .alc 60 [(.int .i64 0), (.int .i64 0), (.int .i64 0)], none⟩]) (.seq (.reg [⟨none, .st 3 (.tmp 5) (.tmp 8), none⟩]) (.seq (.reg [⟨none, .st 3 (.tmp 6) (.tmp 12), none⟩]) (.skip))))) (.seq (.reg [⟨(some 5), .alc 60 [(.int .i64 0), (.int .i64 0), (.int .i64 0)], none⟩]) (.seq (.reg [⟨(some 12), .rcall (.func 71) [(.tmp 9), (.tmp 11)], none⟩]) (.seq (.reg [⟨none, .st 3 (.tmp 5) (.tmp 8), none⟩]) (.seq (.reg [⟨none, .st 3 (.tmp 6) (.tmp 12), none⟩]) (.skip))))))) (.seq (.reg [⟨(some 5), .alc 60 [(.int .i64 0), (.int .i64 0), (.int .i64 0)], none⟩]) (.seq (.reg [⟨(some 8), .rcall (.func 71) [(.tmp 7), (.const (.int .i64 0))], none⟩]) (.seq (.reg [⟨(some 12), .rcall (.func 71) [(.tmp 9), (.tmp 11)], none⟩]) (.seq (.reg [⟨none, .st 3 (.tmp 5) (.tmp 8), none⟩]) (.seq (.reg [⟨none, .st 3 (.tmp 6) (.tmp 12), none⟩]) (.skip))))))))))))))
 (.seq (.label 0)
 (.seq (.seq (.reg [⟨(some 13), .ld (some 3) (.tmp 5), none⟩,
  ⟨(some 14), .ld (some 3) (.tmp 6), none⟩,
  ⟨(some 15), .aeq false 3 (.tmp 13) (.tmp 14), none⟩])
 (.cond (.tmp 15) (.seq (.reg [⟨(some 4), .mv (.const (.bool true)), none⟩])
 (.ret)) (.skip)))
 (.seq (.seq (.reg [⟨(some 16), .ld (some 6) (.tmp 2), none⟩,
  ⟨(some 17), .ld (some 3) (.tmp 5), none⟩,
  ⟨(some 18), .mv (.tmp 1), none⟩,
  ⟨(some 19), .fad 0 (.tmp 5), none⟩,
  ⟨(some 20), .ld none (.tmp 19), none⟩,
  ⟨(some 21), .bin .add (.tmp 20) (.const (.int .i64 1)), none⟩,
  ⟨(some 22), .iad 1 (.tmp 18) (.tmp 21), none⟩,
  ⟨(some 23), .ld none (.tmp 22), none⟩,
  ⟨(some 25), .mv (.tmp 1), none⟩,
  ⟨(some 26), .fad 0 (.tmp 5), none⟩,
  ⟨(some 27), .ld none (.tmp 26), none⟩,
  ⟨(some 28), .iad 1 (.tmp 25) (.tmp 27), none⟩,
  ⟨(some 29), .ld none (.tmp 28), none⟩,
  ⟨(some 30), .fad 1 (.tmp 5), none⟩,
  ⟨(some 31), .ld none (.tmp 30), none⟩,
  ⟨(some 24), .rcall (.func 54) [(.tmp 16), (.tmp 17), (.tmp 23)], none⟩,
  ⟨(some 32), .rcall (.func 72) [(.tmp 31)], none⟩,
  ⟨(some 33), .iad 1 (.tmp 29) (.tmp 32), none⟩,
  ⟨(some 34), .ld none (.tmp 33), none⟩,
  ⟨(some 35), .bin .lss (.tmp 24) (.tmp 34), none⟩])
 (.cond (.tmp 35) (.seq (.reg [⟨(some 4), .mv (.const (.bool false)), none⟩])
 (.ret)) (.skip)))
 (.seq (.seq (.reg [⟨(some 36), .fad 2 (.tmp 5), none⟩,
  ⟨(some 37), .ld none (.tmp 36), none⟩,
  ⟨(some 38), .bin .lss (.tmp 37) (.const (.int .i64 10)), none⟩])
 (.cond (.tmp 38) (.seq (.reg [⟨(some 39), .fad 2 (.tmp 5), none⟩,
  ⟨(some 40), .ld none (.tmp 39), none⟩,
  ⟨(some 41), .bin .add (.tmp 40) (.const (.int .i64 1)), none⟩,
  ⟨(some 42), .fad 2 (.tmp 5), none⟩,
  ⟨none, .st 1 (.tmp 42) (.tmp 41), none⟩])
 (.goto 0)) (.skip)))
 (.seq (.seq (.reg [⟨(some 43), .fad 1 (.tmp 5), none⟩,
  ⟨(some 44), .ld none (.tmp 43), none⟩,
  ⟨(some 45), .bin .lss (.tmp 44) (.const (.int .i64 10)), none⟩])
 (.cond (.tmp 45) (.seq (.reg [⟨(some 46), .fad 1 (.tmp 5), none⟩,
  ⟨(some 47), .ld none (.tmp 46), none⟩,
  ⟨(some 48), .bin .add (.tmp 47) (.const (.int .i64 1)), none⟩,
  ⟨(some 49), .fad 1 (.tmp 5), none⟩,
  ⟨none, .st 1 (.tmp 49) (.tmp 48), none⟩])
 (.seq (.reg [⟨(some 50), .fad 1 (.tmp 5), none⟩,
  ⟨(some 51), .ld none (.tmp 50), none⟩,
  ⟨(some 52), .ld (some 6) (.tmp 2), none⟩,
  ⟨(some 53), .rcall (.func 53) [(.tmp 52)], none⟩,
  ⟨(some 54), .mmx true (.tmp 51) (.tmp 53), none⟩,
  ⟨(some 55), .fad 2 (.tmp 5), none⟩,
  ⟨none, .st 1 (.tmp 55) (.tmp 54), none⟩])
 (.goto 0))) (.skip)))
 (.seq (.reg [⟨(some 56), .ld (some 6) (.tmp 2), none⟩,
  ⟨(some 57), .fad 0 (.tmp 5), none⟩,
  ⟨(some 58), .ld none (.tmp 57), none⟩,
  ⟨(some 59), .bin .add (.tmp 58) (.const (.int .i64 1)), none⟩,
  ⟨(some 60), .call (.func 71) [(.tmp 56), (.tmp 59)], none⟩,
  ⟨none, .st 3 (.tmp 5) (.tmp 60), none⟩])
 (.goto 0)))))))))
def r_impl_noMoveCostsLess : List ARes := [.tmp 4]
theorem ok_impl_noMoveCostsLess : FnOk Try.prog 43 61 c_impl_noMoveCostsLess r_impl_noMoveCostsLess := ⟨⟨Try.f43, _, Try.func43, by kernel_rfl, rfl, rfl, by kernel_rfl, by kernel_rfl⟩⟩
def c_spec_l6Good : ACode := .seq (.reg [⟨(some 1), .box 26 (.tmp 0), none⟩,
  ⟨(some 2), .mv (.const (.bool false)), none⟩])
 (.seq (.reg [⟨(some 3), .fad 0 (.tmp 1), none⟩,
  ⟨(some 4), .ld none (.tmp 3), none⟩,
  ⟨(some 5), .call (.func 40) [(.tmp 4), (.const (.int .i64 0)), (.const (.int .i64 5))], none⟩,
  ⟨(some 6), .mv (.tmp 5), none⟩,
  ⟨(some 7), .fad 1 (.tmp 1), (some (6, true))⟩,
  ⟨(some 8), .ld none (.tmp 7), (some (6, true))⟩,
  ⟨(some 9), .len (.tmp 8), (some (6, true))⟩,
  ⟨(some 10), .call (.func 40) [(.tmp 9), (.const (.int .i64 1)), (.const (.int .i64 5))], (some (6, true))⟩,
  ⟨(some 11), .pick (.tmp 6) (.tmp 10) (.const (.bool false)), none⟩,
  ⟨(some 12), .mv (.tmp 11), none⟩,
  ⟨(some 13), .fad 1 (.tmp 1), (some (12, true))⟩,
  ⟨(some 14), .ld none (.tmp 13), (some (12, true))⟩,
  ⟨(some 15), .fad 1 (.tmp 1), (some (12, true))⟩,
  ⟨(some 16), .ld none (.tmp 15), (some (12, true))⟩,
  ⟨(some 17), .len (.tmp 16), (some (12, true))⟩,
  ⟨(some 18), .call (.func 73) [(.tmp 14), (.tmp 17), (.const (.int .i64 4))], (some (12, true))⟩,
  ⟨(some 19), .pick (.tmp 12) (.tmp 18) (.const (.bool false)), none⟩,
  ⟨(some 20), .mv (.tmp 19), none⟩,
  ⟨(some 21), .fad 1 (.tmp 1), (some (20, true))⟩,
  ⟨(some 22), .ld none (.tmp 21), (some (20, true))⟩,
  ⟨(some 23), .call (.func 49) [(.tmp 22)], (some (20, true))⟩,
  ⟨(some 24), .bin .gtr (.tmp 23) (.const (.int .i64 0)), (some (20, true))⟩,
  ⟨(some 25), .pick (.tmp 20) (.tmp 24) (.const (.bool false)), none⟩,
  ⟨(some 26), .mv (.tmp 25), none⟩,
  ⟨(some 27), .fad 2 (.tmp 1), (some (26, true))⟩,
  ⟨(some 28), .ld none (.tmp 27), (some (26, true))⟩,
  ⟨(some 29), .call (.func 40) [(.tmp 28), (.const (.int .i64 0)), (.const (.int .i64 99))], (some (26, true))⟩,
  ⟨(some 30), .pick (.tmp 26) (.tmp 29) (.const (.bool false)), none⟩,
  ⟨(some 31), .mv (.tmp 30), none⟩,
  ⟨(some 32), .fad 3 (.tmp 1), (some (31, true))⟩,
  ⟨(some 33), .ld none (.tmp 32), (some (31, true))⟩,
  ⟨(some 34), .call (.func 40) [(.tmp 33), (.const (.int .i64 0)), (.const (.int .i64 9))], (some (31, true))⟩,
  ⟨(some 35), .pick (.tmp 31) (.tmp 34) (.const (.bool false)), none⟩,
  ⟨(some 36), .mv (.tmp 35), none⟩,
  ⟨(some 37), .fad 4 (.tmp 1), (some (36, true))⟩,
  ⟨(some 38), .ld none (.tmp 37), (some (36, true))⟩,
  ⟨(some 39), .call (.func 40) [(.tmp 38), (.const (.int .i64 0)), (.const (.int .i64 9))], (some (36, true))⟩,
  ⟨(some 40), .pick (.tmp 36) (.tmp 39) (.const (.bool false)), none⟩,
  ⟨(some 41), .mv (.tmp 40), none⟩,
  ⟨(some 42), .fad 5 (.tmp 1), (some (41, true))⟩,
  ⟨(some 43), .ld none (.tmp 42), (some (41, true))⟩,
  ⟨(some 44), .call (.func 40) [(.tmp 43), (.const (.int .i64 0)), (.const (.int .i64 9))], (some (41, true))⟩,
  ⟨(some 45), .pick (.tmp 41) (.tmp 44) (.const (.bool false)), none⟩,
  ⟨(some 2), .mv (.tmp 45), none⟩])
 (.ret))
def r_spec_l6Good : List ARes := [.tmp 2]
theorem ok_spec_l6Good : FnOk Try.prog 44 46 c_spec_l6Good r_spec_l6Good := ⟨⟨Try.f44, _, Try.func44, by kernel_rfl, rfl, rfl, by kernel_rfl, by kernel_rfl⟩⟩
def c_spec_l6Table : ACode := .seq (.reg [⟨(some 2), .box 26 (.tmp 0), none⟩,
  ⟨(some 4), .mv (.const (.bool false)), none⟩])
 (.seq (.seq (.reg [⟨(some 5), .mv (.const (.int .i64 0)), none⟩])
 (.block 0 (.loop (.seq (.seq (.reg [⟨(some 7), .mv (.tmp 5), none⟩,
  ⟨(some 8), .mv (.tmp 1), none⟩,
  ⟨(some 9), .len (.tmp 8), none⟩,
  ⟨(some 10), .bin .lss (.tmp 7) (.tmp 9), none⟩])
 (.cond (.tmp 10) (.skip) (.exit 0)))
 (.seq (.block 1 (.seq (.seq (.reg [⟨(some 6), .mv (.const (.int .i64 0)), none⟩])
 (.block 2 (.loop (.seq (.seq (.reg [⟨(some 13), .mv (.tmp 6), none⟩,
  ⟨(some 14), .mv (.tmp 1), none⟩,
  ⟨(some 15), .mv (.tmp 5), none⟩,
  ⟨(some 16), .iad 1 (.tmp 14) (.tmp 15), none⟩,
  ⟨(some 17), .ld none (.tmp 16), none⟩,
  ⟨(some 18), .len (.tmp 17), none⟩,
  ⟨(some 19), .bin .lss (.tmp 13) (.tmp 18), none⟩])
 (.cond (.tmp 19) (.skip) (.exit 2)))
 (.seq (.block 3 (.seq (.reg [⟨(some 22), .mv (.tmp 1), none⟩,
  ⟨(some 23), .mv (.tmp 5), none⟩,
  ⟨(some 24), .iad 1 (.tmp 22) (.tmp 23), none⟩,
  ⟨(some 25), .ld none (.tmp 24), none⟩,
  ⟨(some 26), .mv (.tmp 6), none⟩,
  ⟨(some 27), .iad 1 (.tmp 25) (.tmp 26), none⟩,
  ⟨(some 28), .ld none (.tmp 27), none⟩,
  ⟨(some 29), .call (.func 40) [(.tmp 28), (.const (.int .i64 (-1000000000000))), (.const (.int .i64 1000000000000))], none⟩,
  ⟨(some 30), .un .not (.tmp 29), none⟩])
 (.cond (.tmp 30) (.seq (.reg [⟨(some 4), .mv (.const (.bool false)), none⟩])
 (.ret)) (.skip))))
 (.reg [⟨(some 20), .mv (.tmp 6), none⟩,
  ⟨(some 21), .bin .add (.tmp 20) (.const (.int .i64 1)), none⟩,
  ⟨(some 6), .mv (.tmp 21), none⟩]))))))
 (.seq (.reg [⟨(some 31), .mv (.tmp 1), none⟩,
  ⟨(some 32), .mv (.tmp 5), none⟩,
  ⟨(some 33), .iad 1 (.tmp 31) (.tmp 32), none⟩,
  ⟨(some 34), .ld none (.tmp 33), none⟩,
  ⟨(some 35), .len (.tmp 34), none⟩,
  ⟨(some 36), .bin .neq (.tmp 35) (.const (.int .i64 21)), none⟩])
 (.cond (.tmp 36) (.seq (.reg [⟨(some 4), .mv (.const (.bool false)), none⟩])
 (.ret)) (.skip)))))
 (.reg [⟨(some 11), .mv (.tmp 5), none⟩,
  ⟨(some 12), .bin .add (.tmp 11) (.const (.int .i64 1)), none⟩,
  ⟨(some 5), .mv (.tmp 12), none⟩]))))))
 (.seq (.reg [⟨(some 37), .mv (.tmp 1), none⟩,
  ⟨(some 38), .len (.tmp 37), none⟩,
  ⟨(some 39), .fad 0 (.tmp 2), none⟩,
  ⟨(some 40), .ld none (.tmp 39), none⟩,
  ⟨(some 41), .bin .add (.tmp 40) (.const (.int .i64 1)), none⟩,
  ⟨(some 42), .bin .eql (.tmp 38) (.tmp 41), none⟩,
  ⟨(some 4), .mv (.tmp 42), none⟩])
 (.ret)))
def r_spec_l6Table : List ARes := [.tmp 4]
theorem ok_spec_l6Table : FnOk Try.prog 45 43 c_spec_l6Table r_spec_l6Table := ⟨⟨Try.f45, _, Try.func45, by kernel_rfl, rfl, rfl, by kernel_rfl, by kernel_rfl⟩⟩
def c_spec_l6Under : ACode := .seq (.reg [⟨(some 3), .box 26 (.tmp 0), none⟩,
  ⟨(some 6), .mv (.const (.bool false)), none⟩])
 (.seq (.seq (.reg [⟨(some 7), .mv (.const (.int .i64 (-10))), none⟩])
 (.block 0 (.loop (.seq (.seq (.reg [⟨(some 10), .mv (.tmp 7), none⟩,
  ⟨(some 11), .bin .leq (.tmp 10) (.const (.int .i64 10)), none⟩])
 (.cond (.tmp 11) (.skip) (.exit 0)))
 (.seq (.block 1 (.seq (.reg [⟨(some 15), .ld (some 6) (.tmp 3), none⟩,
  ⟨(some 16), .mv (.tmp 1), none⟩,
  ⟨(some 17), .mv (.tmp 2), none⟩,
  ⟨(some 18), .bin .add (.tmp 17) (.const (.int .i64 1)), none⟩,
  ⟨(some 19), .iad 1 (.tmp 16) (.tmp 18), none⟩,
  ⟨(some 20), .ld none (.tmp 19), none⟩,
  ⟨(some 21), .mv (.tmp 7), none⟩,
  ⟨(some 22), .fad 0 (.tmp 3), none⟩,
  ⟨(some 23), .ld none (.tmp 22), none⟩,
  ⟨(some 24), .mv (.tmp 2), none⟩,
  ⟨(some 25), .bin .sub (.tmp 23) (.tmp 24), none⟩,
  ⟨(some 26), .rcall (.func 32) [(.tmp 15), (.tmp 20), (.tmp 21), (.tmp 25)], none⟩,
  ⟨(some 14), .mv (.tmp 26), none⟩,
  ⟨(some 27), .ext 0 (.tmp 14), none⟩,
  ⟨(some 28), .ext 1 (.tmp 14), none⟩,
  ⟨(some 8), .mv (.tmp 27), none⟩,
  ⟨(some 9), .mv (.tmp 28), none⟩])
 (.seq (.reg [⟨(some 29), .mv (.tmp 1), none⟩,
  ⟨(some 30), .mv (.tmp 2), none⟩,
  ⟨(some 31), .iad 1 (.tmp 29) (.tmp 30), none⟩,
  ⟨(some 32), .ld none (.tmp 31), none⟩,
  ⟨(some 33), .mv (.tmp 7), none⟩,
  ⟨(some 34), .bin .add (.tmp 33) (.const (.int .i64 10)), none⟩,
  ⟨(some 35), .iad 1 (.tmp 32) (.tmp 34), none⟩,
  ⟨(some 36), .ld none (.tmp 35), none⟩,
  ⟨(some 37), .mv (.tmp 9), none⟩,
  ⟨(some 38), .bin .gtr (.tmp 36) (.tmp 37), none⟩])
 (.cond (.tmp 38) (.seq (.reg [⟨(some 6), .mv (.const (.bool false)), none⟩])
 (.ret)) (.skip)))))
 (.reg [⟨(some 12), .mv (.tmp 7), none⟩,
  ⟨(some 13), .bin .add (.tmp 12) (.const (.int .i64 1)), none⟩,
  ⟨(some 7), .mv (.tmp 13), none⟩]))))))
 (.seq (.reg [⟨(some 6), .mv (.const (.bool true)), none⟩])
 (.ret)))
def r_spec_l6Under : List ARes := [.tmp 6]
theorem ok_spec_l6Under : FnOk Try.prog 46 39 c_spec_l6Under r_spec_l6Under := ⟨⟨Try.f46, _, Try.func46, by kernel_rfl, rfl, rfl, by kernel_rfl, by kernel_rfl⟩⟩
def c_impl_bestPair : ACode := .seq (.reg [⟨(some 3), .box 26 (.tmp 0), none⟩,
  ⟨(some 6), .alc 49 [(.int .i64 0), (.int .i64 0)], none⟩])
 (.seq (.reg [⟨(some 12), .ld (some 6) (.tmp 3), none⟩,
  ⟨(some 13), .mv (.tmp 1), none⟩,
  ⟨(some 14), .mv (.tmp 2), none⟩,
  ⟨(some 15), .call (.func 34) [(.tmp 12), (.tmp 13), (.tmp 14)], none⟩,
  ⟨(some 7), .mv (.tmp 15), none⟩])
 (.seq (.reg [⟨(some 16), .mv (.tmp 7), none⟩,
  ⟨(some 17), .call (.func 74) [(.tmp 16)], none⟩,
  ⟨(some 8), .mv (.tmp 17), none⟩])
 (.seq (.seq (.reg [⟨(some 18), .mv (.tmp 8), none⟩]) (.seq (.reg [⟨(some 19), .fad 2 (.tmp 3), none⟩]) (.seq (.reg [⟨(some 20), .ld none (.tmp 19), none⟩]) (.seq (.reg [⟨(some 21), .ld (some 6) (.tmp 3), none⟩]) (.seq (.reg [⟨(some 22), .mv (.tmp 1), none⟩]) (.both (.seq (.reg [⟨(some 23), .rcall (.func 62) [(.tmp 21), (.tmp 22)], none⟩]) (.seq (.reg [⟨(some 24), .bin .mul (.tmp 20) (.tmp 23), none⟩]) (.seq (.reg [⟨(some 25), .bin .add (.tmp 18) (.tmp 24), none⟩]) (.seq (.reg [⟨(some 9), .alc 3 [(.int .i64 0)], none⟩]) (.seq (.reg [⟨none, .st 1 (.tmp 9) (.tmp 25), none⟩]) (.skip)))))) (.seq (.reg [⟨(some 9), .alc 3 [(.int .i64 0)], none⟩]) (.seq (.reg [⟨(some 23), .rcall (.func 62) [(.tmp 21), (.tmp 22)], none⟩]) (.seq (.reg [⟨(some 24), .bin .mul (.tmp 20) (.tmp 23), none⟩]) (.seq (.reg [⟨(some 25), .bin .add (.tmp 18) (.tmp 24), none⟩]) (.seq (.reg [⟨none, .st 1 (.tmp 9) (.tmp 25), none⟩]) (.skip))))))))))))
 (.seq (.reg [⟨(some 26), .mv (.tmp 7), none⟩,
  ⟨(some 27), .mkf 76 [] [(.tmp 9)], none⟩,
  ⟨(some 28), .call (.func 75) [(.tmp 26), (.tmp 27)], none⟩,
  ⟨(some 10), .mv (.tmp 28), none⟩])
 (.seq (.reg [⟨(some 29), .mv (.tmp 7), none⟩,
  ⟨(some 30), .mv (.tmp 8), none⟩,
  ⟨(some 31), .call (.func 77) [(.tmp 29), (.tmp 30)], none⟩,
  ⟨(some 11), .mv (.tmp 31), none⟩])
 (.seq (.reg [⟨(some 32), .ld (some 6) (.tmp 3), none⟩,
  ⟨(some 34), .mv (.tmp 10), none⟩,
  ⟨(some 36), .ld (some 6) (.tmp 3), none⟩,
  ⟨(some 38), .mv (.tmp 11), none⟩,
  ⟨(some 33), .rcall (.func 53) [(.tmp 32)], none⟩,
  ⟨(some 35), .bin .add (.tmp 33) (.tmp 34), none⟩,
  ⟨(some 37), .rcall (.func 53) [(.tmp 36)], none⟩,
  ⟨(some 39), .bin .add (.tmp 37) (.tmp 38), none⟩,
  ⟨(some 40), .bld [(.int .i64 0), (.int .i64 0)] [(0, 1, (.tmp 35)), (1, 1, (.tmp 39))], none⟩,
  ⟨none, .st 2 (.tmp 6) (.tmp 40), none⟩])
 (.ret)))))))
def r_impl_bestPair : List ARes := [.cell 6 (some 2)]
theorem ok_impl_bestPair : FnOk Try.prog 47 41 c_impl_bestPair r_impl_bestPair := ⟨⟨Try.f47, _, Try.func47, by kernel_rfl, rfl, rfl, by kernel_rfl, by kernel_rfl⟩⟩
def c_spec_l6Levels : ACode := .seq (.reg [⟨(some 3), .box 26 (.tmp 0), none⟩,
  ⟨(some 6), .alc 49 [(.int .i64 0), (.int .i64 0)], none⟩])
 (.seq (.reg [⟨(some 11), .ld (some 6) (.tmp 3), none⟩,
  ⟨(some 12), .mv (.tmp 1), none⟩,
  ⟨(some 13), .mv (.tmp 2), none⟩,
  ⟨(some 14), .call (.func 35) [(.tmp 11), (.tmp 12), (.tmp 13)], none⟩,
  ⟨(some 7), .mv (.tmp 14), none⟩,
  ⟨(some 8), .mv (.const (.int .i64 0)), none⟩,
  ⟨(some 9), .mv (.const (.int .i64 0)), none⟩])
 (.seq (.seq (.reg [⟨(some 10), .mv (.const (.int .i64 1)), none⟩])
 (.block 0 (.loop (.seq (.seq (.reg [⟨(some 15), .mv (.tmp 10), none⟩,
  ⟨(some 16), .mv (.tmp 7), none⟩,
  ⟨(some 17), .len (.tmp 16), none⟩,
  ⟨(some 18), .bin .lss (.tmp 15) (.tmp 17), none⟩])
 (.cond (.tmp 18) (.skip) (.exit 0)))
 (.seq (.block 1 (.seq (.reg [⟨(some 21), .mv (.tmp 7), none⟩,
  ⟨(some 22), .mv (.tmp 10), none⟩,
  ⟨(some 23), .iad 1 (.tmp 21) (.tmp 22), none⟩,
  ⟨(some 24), .ld none (.tmp 23), none⟩,
  ⟨(some 25), .mv (.tmp 7), none⟩,
  ⟨(some 26), .mv (.tmp 8), none⟩,
  ⟨(some 27), .iad 1 (.tmp 25) (.tmp 26), none⟩,
  ⟨(some 28), .ld none (.tmp 27), none⟩,
  ⟨(some 29), .bin .lss (.tmp 24) (.tmp 28), none⟩])
 (.cond (.tmp 29) (.reg [⟨(some 30), .mv (.tmp 10), none⟩,
  ⟨(some 8), .mv (.tmp 30), none⟩]) (.skip))))
 (.reg [⟨(some 19), .mv (.tmp 10), none⟩,
  ⟨(some 20), .bin .add (.tmp 19) (.const (.int .i64 1)), none⟩,
  ⟨(some 10), .mv (.tmp 20), none⟩]))))))
 (.seq (.block 2 (.loop (.seq (.seq (.reg [⟨(some 31), .mv (.tmp 7), none⟩,
  ⟨(some 32), .mv (.tmp 9), none⟩,
  ⟨(some 33), .iad 1 (.tmp 31) (.tmp 32), none⟩,
  ⟨(some 34), .ld none (.tmp 33), none⟩,
  ⟨(some 35), .mv (.tmp 7), none⟩,
  ⟨(some 36), .mv (.tmp 8), none⟩,
  ⟨(some 37), .iad 1 (.tmp 35) (.tmp 36), none⟩,
  ⟨(some 38), .ld none (.tmp 37), none⟩,
  ⟨(some 39), .fad 2 (.tmp 3), none⟩,
  ⟨(some 40), .ld none (.tmp 39), none⟩,
  ⟨(some 41), .ld (some 6) (.tmp 3), none⟩,
  ⟨(some 42), .fad 0 (.tmp 3), none⟩,
  ⟨(some 43), .ld none (.tmp 42), none⟩,
  ⟨(some 44), .mv (.tmp 2), none⟩,
  ⟨(some 45), .bin .sub (.tmp 43) (.tmp 44), none⟩,
  ⟨(some 46), .rcall (.func 60) [(.tmp 41), (.tmp 45)], none⟩,
  ⟨(some 47), .bin .mul (.tmp 40) (.tmp 46), none⟩,
  ⟨(some 48), .bin .add (.tmp 38) (.tmp 47), none⟩,
  ⟨(some 49), .bin .gtr (.tmp 34) (.tmp 48), none⟩])
 (.cond (.tmp 49) (.skip) (.exit 2)))
 (.block 3 (.reg [⟨(some 50), .mv (.tmp 9), none⟩,
  ⟨(some 51), .bin .add (.tmp 50) (.const (.int .i64 1)), none⟩,
  ⟨(some 9), .mv (.tmp 51), none⟩])))))
 (.seq (.reg [⟨(some 52), .mv (.tmp 9), none⟩,
  ⟨(some 53), .ld (some 6) (.tmp 3), none⟩,
  ⟨(some 56), .mv (.tmp 8), none⟩,
  ⟨(some 57), .ld (some 6) (.tmp 3), none⟩,
  ⟨(some 54), .rcall (.func 58) [(.tmp 53)], none⟩,
  ⟨(some 55), .bin .add (.tmp 52) (.tmp 54), none⟩,
  ⟨(some 58), .rcall (.func 58) [(.tmp 57)], none⟩,
  ⟨(some 59), .bin .add (.tmp 56) (.tmp 58), none⟩,
  ⟨(some 60), .bld [(.int .i64 0), (.int .i64 0)] [(0, 1, (.tmp 55)), (1, 1, (.tmp 59))], none⟩,
  ⟨none, .st 2 (.tmp 6) (.tmp 60), none⟩])
 (.ret)))))
def r_spec_l6Levels : List ARes := [.cell 6 (some 2)]
theorem ok_spec_l6Levels : FnOk Try.prog 48 61 c_spec_l6Levels r_spec_l6Levels := ⟨⟨Try.f48, _, Try.func48, by kernel_rfl, rfl, rfl, by kernel_rfl, by kernel_rfl⟩⟩
def c_spec_l2Sum : ACode := .seq (.reg [⟨(some 2), .mv (.const (.int .i64 0)), none⟩])
 (.seq (.reg [⟨(some 3), .mv (.const (.int .i64 0)), none⟩])
 (.seq (.seq (.reg [⟨(some 4), .mv (.const (.int .i64 0)), none⟩])
 (.block 0 (.loop (.seq (.seq (.reg [⟨(some 5), .mv (.tmp 4), none⟩,
  ⟨(some 6), .mv (.tmp 0), none⟩,
  ⟨(some 7), .len (.tmp 6), none⟩,
  ⟨(some 8), .bin .lss (.tmp 5) (.tmp 7), none⟩])
 (.cond (.tmp 8) (.skip) (.exit 0)))
 (.seq (.block 1 (.reg [⟨(some 11), .mv (.tmp 3), none⟩,
  ⟨(some 12), .mv (.tmp 0), none⟩,
  ⟨(some 13), .mv (.tmp 4), none⟩,
  ⟨(some 14), .iad 1 (.tmp 12) (.tmp 13), none⟩,
  ⟨(some 15), .ld none (.tmp 14), none⟩,
  ⟨(some 16), .bin .add (.tmp 11) (.tmp 15), none⟩,
  ⟨(some 3), .mv (.tmp 16), none⟩]))
 (.reg [⟨(some 9), .mv (.tmp 4), none⟩,
  ⟨(some 10), .bin .add (.tmp 9) (.const (.int .i64 1)), none⟩,
  ⟨(some 4), .mv (.tmp 10), none⟩]))))))
 (.seq (.reg [⟨(some 17), .mv (.tmp 3), none⟩,
  ⟨(some 2), .mv (.tmp 17), none⟩])
 (.ret))))
def r_spec_l2Sum : List ARes := [.tmp 2]
theorem ok_spec_l2Sum : FnOk Try.prog 49 18 c_spec_l2Sum r_spec_l2Sum := ⟨⟨Try.f49, _, Try.func49, by kernel_rfl, rfl, rfl, by kernel_rfl, by kernel_rfl⟩⟩
def c_impl_isNear : ACode := .seq (.reg [⟨(some 4), .mv (.const (.bool false)), none⟩])
 (.seq (.reg [⟨(some 5), .mv (.tmp 0), none⟩,
  ⟨(some 6), .mv (.tmp 1), none⟩,
  ⟨(some 7), .un .neg (.tmp 6), none⟩,
  ⟨(some 8), .bin .geq (.tmp 5) (.tmp 7), none⟩,
  ⟨(some 9), .mv (.tmp 8), none⟩,
  ⟨(some 10), .mv (.tmp 0), (some (9, true))⟩,
  ⟨(some 11), .mv (.tmp 1), (some (9, true))⟩,
  ⟨(some 12), .bin .leq (.tmp 10) (.tmp 11), (some (9, true))⟩,
  ⟨(some 13), .pick (.tmp 9) (.tmp 12) (.const (.bool false)), none⟩,
  ⟨(some 4), .mv (.tmp 13), none⟩])
 (.ret))
def r_impl_isNear : List ARes := [.tmp 4]
theorem ok_impl_isNear : FnOk Try.prog 52 14 c_impl_isNear r_impl_isNear := ⟨⟨Try.f52, _, Try.func52, by kernel_rfl, rfl, rfl, by kernel_rfl, by kernel_rfl⟩⟩
def c_impl_floorOf : ACode := .seq (.reg [⟨(some 1), .box 26 (.tmp 0), none⟩,
  ⟨(some 2), .mv (.const (.int .i64 0)), none⟩])
 (.seq (.reg [⟨(some 3), .fad 1 (.tmp 1), none⟩,
  ⟨(some 4), .ld none (.tmp 3), none⟩,
  ⟨(some 5), .len (.tmp 4), none⟩,
  ⟨(some 6), .bin .sub (.tmp 5) (.const (.int .i64 1)), none⟩,
  ⟨(some 7), .bin .sub (.tmp 6) (.const (.int .i64 10)), none⟩,
  ⟨(some 2), .mv (.tmp 7), none⟩])
 (.ret))
def r_impl_floorOf : List ARes := [.tmp 2]
theorem ok_impl_floorOf : FnOk Try.prog 53 8 c_impl_floorOf r_impl_floorOf := ⟨⟨Try.f53, _, Try.func53, by kernel_rfl, rfl, rfl, by kernel_rfl, by kernel_rfl⟩⟩
def c_impl_moveCost : ACode := .seq (.reg [⟨(some 3), .box 26 (.tmp 0), none⟩,
  ⟨(some 4), .box 60 (.tmp 1), none⟩,
  ⟨(some 6), .mv (.const (.int .i64 0)), none⟩])
 (.seq (.reg [⟨(some 7), .ld (some 6) (.tmp 3), none⟩,
  ⟨(some 8), .fad 1 (.tmp 4), none⟩,
  ⟨(some 9), .ld none (.tmp 8), none⟩,
  ⟨(some 10), .fad 2 (.tmp 4), none⟩,
  ⟨(some 11), .ld none (.tmp 10), none⟩,
  ⟨(some 13), .ld (some 6) (.tmp 3), none⟩,
  ⟨(some 14), .fad 0 (.tmp 4), none⟩,
  ⟨(some 15), .ld none (.tmp 14), none⟩,
  ⟨(some 18), .ld (some 6) (.tmp 3), none⟩,
  ⟨(some 19), .fad 0 (.tmp 4), none⟩,
  ⟨(some 20), .ld none (.tmp 19), none⟩,
  ⟨(some 21), .fad 2 (.tmp 4), none⟩,
  ⟨(some 22), .ld none (.tmp 21), none⟩,
  ⟨(some 23), .mv (.tmp 2), none⟩,
  ⟨(some 12), .rcall (.func 78) [(.tmp 7), (.tmp 9), (.tmp 11)], none⟩,
  ⟨(some 16), .rcall (.func 62) [(.tmp 13), (.tmp 15)], none⟩,
  ⟨(some 17), .bin .mul (.tmp 12) (.tmp 16), none⟩,
  ⟨(some 24), .rcall (.func 63) [(.tmp 18), (.tmp 20), (.tmp 22), (.tmp 23)], none⟩,
  ⟨(some 25), .bin .add (.tmp 17) (.tmp 24), none⟩,
  ⟨(some 6), .mv (.tmp 25), none⟩])
 (.ret))
def r_impl_moveCost : List ARes := [.tmp 6]
theorem ok_impl_moveCost : FnOk Try.prog 54 26 c_impl_moveCost r_impl_moveCost := ⟨⟨Try.f54, _, Try.func54, by kernel_rfl, rfl, rfl, by kernel_rfl, by kernel_rfl⟩⟩
def c_impl_tableBy : ACode := .seq (.reg [⟨(some 2), .box 26 (.tmp 0), none⟩,
  ⟨(some 4), .mv (.const (.slice none 0 0)), none⟩])
 (.seq (.reg [⟨(some 9), .fad 0 (.tmp 2), none⟩,
  ⟨(some 10), .ld none (.tmp 9), none⟩,
  ⟨(some 11), .bin .add (.tmp 10) (.const (.int .i64 1)), none⟩,
  ⟨(some 12), .mks 24 24 [(.slice none 0 0)] (.tmp 11) (.tmp 11), none⟩,
  ⟨(some 5), .mv (.tmp 12), none⟩])
 (.seq (.reg [⟨(some 13), .mv (.tmp 5), none⟩,
  ⟨(some 14), .fad 0 (.tmp 2), none⟩,
  ⟨(some 15), .ld none (.tmp 14), none⟩,
  ⟨(some 16), .mks 3 8 [(.int .i64 0)] (.const (.int .i64 21)) (.const (.int .i64 21)), none⟩,
  ⟨(some 17), .iad 1 (.tmp 13) (.tmp 15), none⟩,
  ⟨none, .st 1 (.tmp 17) (.tmp 16), none⟩])
 (.seq (.seq (.reg [⟨(some 18), .fad 0 (.tmp 2), none⟩,
  ⟨(some 19), .ld none (.tmp 18), none⟩,
  ⟨(some 20), .bin .sub (.tmp 19) (.const (.int .i64 1)), none⟩,
  ⟨(some 6), .mv (.tmp 20), none⟩])
 (.block 0 (.loop (.seq (.seq (.reg [⟨(some 21), .mv (.tmp 6), none⟩,
  ⟨(some 22), .bin .geq (.tmp 21) (.const (.int .i64 0)), none⟩])
 (.cond (.tmp 22) (.skip) (.exit 0)))
 (.seq (.block 1 (.seq (.reg [⟨(some 25), .mv (.tmp 5), none⟩,
  ⟨(some 26), .mv (.tmp 6), none⟩,
  ⟨(some 27), .bin .add (.tmp 26) (.const (.int .i64 1)), none⟩,
  ⟨(some 28), .iad 1 (.tmp 25) (.tmp 27), none⟩,
  ⟨(some 29), .ld none (.tmp 28), none⟩,
  ⟨(some 7), .mv (.tmp 29), none⟩])
 (.seq (.reg [⟨(some 8), .mv (.const (.int .i64 (-10))), none⟩])
 (.block 2 (.loop (.seq (.seq (.reg [⟨(some 30), .mv (.tmp 8), none⟩,
  ⟨(some 31), .bin .leq (.tmp 30) (.const (.int .i64 10)), none⟩])
 (.cond (.tmp 31) (.skip) (.exit 2)))
 (.seq (.block 3 (.reg [⟨(some 34), .mv (.tmp 5), none⟩,
  ⟨(some 35), .mv (.tmp 6), none⟩,
  ⟨(some 36), .mv (.tmp 5), none⟩,
  ⟨(some 37), .mv (.tmp 6), none⟩,
  ⟨(some 38), .iad 1 (.tmp 36) (.tmp 37), none⟩,
  ⟨(some 39), .ld none (.tmp 38), none⟩,
  ⟨(some 40), .ld (some 6) (.tmp 2), none⟩,
  ⟨(some 41), .mv (.tmp 1), none⟩,
  ⟨(some 42), .mv (.tmp 6), none⟩,
  ⟨(some 43), .mv (.tmp 8), none⟩,
  ⟨(some 44), .mv (.tmp 7), none⟩,
  ⟨(some 46), .mv (.tmp 7), none⟩,
  ⟨(some 45), .rcall (.tmp 41) [(.tmp 42), (.tmp 43), (.tmp 44)], none⟩,
  ⟨(some 47), .rcall (.func 54) [(.tmp 40), (.tmp 45), (.tmp 46)], none⟩,
  ⟨(some 48), .bsl 3 1 1 [(.int .i64 0)] [(0, 1, (.tmp 47))], none⟩,
  ⟨(some 49), .app 3 1 8 (.tmp 39) (.tmp 48), none⟩,
  ⟨(some 50), .iad 1 (.tmp 34) (.tmp 35), none⟩,
  ⟨none, .st 1 (.tmp 50) (.tmp 49), none⟩]))
 (.reg [⟨(some 32), .mv (.tmp 8), none⟩,
  ⟨(some 33), .bin .add (.tmp 32) (.const (.int .i64 1)), none⟩,
  ⟨(some 8), .mv (.tmp 33), none⟩]))))))))
 (.reg [⟨(some 23), .mv (.tmp 6), none⟩,
  ⟨(some 24), .bin .sub (.tmp 23) (.const (.int .i64 1)), none⟩,
  ⟨(some 6), .mv (.tmp 24), none⟩]))))))
 (.seq (.reg [⟨(some 51), .mv (.tmp 5), none⟩,
  ⟨(some 4), .mv (.tmp 51), none⟩])
 (.ret)))))
def r_impl_tableBy : List ARes := [.tmp 4]
theorem ok_impl_tableBy : FnOk Try.prog 55 52 c_impl_tableBy r_impl_tableBy := ⟨⟨Try.f55, _, Try.func55, by kernel_rfl, rfl, rfl, by kernel_rfl, by kernel_rfl⟩⟩
def c_impl_worthTable_1 : ACode := .seq (.reg [⟨(some 7), .alc 60 [(.int .i64 0), (.int .i64 0), (.int .i64 0)], none⟩])
 (.seq (.reg [⟨(some 8), .ld (some 6) (.tmp 3), none⟩,
  ⟨(some 9), .mv (.tmp 0), none⟩,
  ⟨(some 10), .mv (.tmp 1), none⟩,
  ⟨(some 11), .mv (.tmp 2), none⟩,
  ⟨(some 12), .call (.func 28) [(.tmp 8), (.tmp 9), (.tmp 10), (.tmp 11)], none⟩,
  ⟨none, .st 3 (.tmp 7) (.tmp 12), none⟩])
 (.ret))
def r_impl_worthTable_1 : List ARes := [.cell 7 (some 3)]
theorem ok_impl_worthTable_1 : FnOk Try.prog 56 13 c_impl_worthTable_1 r_impl_worthTable_1 := ⟨⟨Try.f56, _, Try.func56, by kernel_rfl, rfl, rfl, by kernel_rfl, by kernel_rfl⟩⟩
def c_spec_l1Most : ACode := .seq (.reg [⟨(some 4), .mv (.const (.int .i64 0)), none⟩])
 (.seq (.seq (.reg [⟨(some 5), .mv (.tmp 0), none⟩,
  ⟨(some 6), .mv (.tmp 1), none⟩,
  ⟨(some 7), .bin .gtr (.tmp 5) (.tmp 6), none⟩])
 (.cond (.tmp 7) (.seq (.reg [⟨(some 8), .mv (.tmp 0), none⟩,
  ⟨(some 4), .mv (.tmp 8), none⟩])
 (.ret)) (.skip)))
 (.seq (.reg [⟨(some 9), .mv (.tmp 1), none⟩,
  ⟨(some 4), .mv (.tmp 9), none⟩])
 (.ret)))
def r_spec_l1Most : List ARes := [.tmp 4]
theorem ok_spec_l1Most : FnOk Try.prog 57 10 c_spec_l1Most r_spec_l1Most := ⟨⟨Try.f57, _, Try.func57, by kernel_rfl, rfl, rfl, by kernel_rfl, by kernel_rfl⟩⟩
def c_spec_l6Floor : ACode := .seq (.reg [⟨(some 1), .box 26 (.tmp 0), none⟩,
  ⟨(some 2), .mv (.const (.int .i64 0)), none⟩])
 (.seq (.reg [⟨(some 3), .fad 1 (.tmp 1), none⟩,
  ⟨(some 4), .ld none (.tmp 3), none⟩,
  ⟨(some 5), .len (.tmp 4), none⟩,
  ⟨(some 6), .bin .sub (.tmp 5) (.const (.int .i64 1)), none⟩,
  ⟨(some 7), .bin .sub (.tmp 6) (.const (.int .i64 10)), none⟩,
  ⟨(some 2), .mv (.tmp 7), none⟩])
 (.ret))
def r_spec_l6Floor : List ARes := [.tmp 2]
theorem ok_spec_l6Floor : FnOk Try.prog 58 8 c_spec_l6Floor r_spec_l6Floor := ⟨⟨Try.f58, _, Try.func58, by kernel_rfl, rfl, rfl, by kernel_rfl, by kernel_rfl⟩⟩
def c_spec_l6Order : ACode := .seq (.reg [⟨(some 3), .box 26 (.tmp 0), none⟩,
  ⟨(some 6), .mv (.const (.int .i64 0)), none⟩])
 (.seq (.seq (.reg [⟨(some 7), .mv (.tmp 2), none⟩,
  ⟨(some 8), .mv (.tmp 1), none⟩,
  ⟨(some 9), .bin .gtr (.tmp 7) (.tmp 8), none⟩])
 (.cond (.tmp 9) (.seq (.reg [⟨(some 10), .fad 2 (.tmp 3), none⟩,
  ⟨(some 11), .ld none (.tmp 10), none⟩,
  ⟨(some 12), .fad 3 (.tmp 3), none⟩,
  ⟨(some 13), .ld none (.tmp 12), none⟩,
  ⟨(some 14), .mv (.tmp 2), none⟩,
  ⟨(some 15), .mv (.tmp 1), none⟩,
  ⟨(some 16), .bin .sub (.tmp 14) (.tmp 15), none⟩,
  ⟨(some 17), .bin .mul (.tmp 13) (.tmp 16), none⟩,
  ⟨(some 18), .bin .add (.tmp 11) (.tmp 17), none⟩,
  ⟨(some 6), .mv (.tmp 18), none⟩])
 (.ret)) (.skip)))
 (.seq (.reg [⟨(some 6), .mv (.const (.int .i64 0)), none⟩])
 (.ret)))
def r_spec_l6Order : List ARes := [.tmp 6]
theorem ok_spec_l6Order : FnOk Try.prog 59 19 c_spec_l6Order r_spec_l6Order := ⟨⟨Try.f59, _, Try.func59, by kernel_rfl, rfl, rfl, by kernel_rfl, by kernel_rfl⟩⟩
def c_spec_l6Power : ACode := .seq (.reg [⟨(some 2), .box 26 (.tmp 0), none⟩,
  ⟨(some 4), .mv (.const (.int .i64 0)), none⟩])
 (.seq (.reg [⟨(some 8), .fad 1 (.tmp 2), none⟩,
  ⟨(some 9), .ld none (.tmp 8), none⟩,
  ⟨(some 10), .call (.func 49) [(.tmp 9)], none⟩,
  ⟨(some 5), .mv (.const (.int .i64 1)), none⟩,
  ⟨(some 6), .mv (.tmp 10), none⟩])
 (.seq (.seq (.reg [⟨(some 7), .mv (.const (.int .i64 0)), none⟩])
 (.block 0 (.loop (.seq (.seq (.reg [⟨(some 11), .mv (.tmp 7), none⟩,
  ⟨(some 12), .mv (.tmp 1), none⟩,
  ⟨(some 13), .bin .lss (.tmp 11) (.tmp 12), none⟩])
 (.cond (.tmp 13) (.skip) (.exit 0)))
 (.seq (.block 1 (.reg [⟨(some 16), .mv (.tmp 5), none⟩,
  ⟨(some 17), .mv (.tmp 6), none⟩,
  ⟨(some 18), .bin .mul (.tmp 16) (.tmp 17), none⟩,
  ⟨(some 5), .mv (.tmp 18), none⟩]))
 (.reg [⟨(some 14), .mv (.tmp 7), none⟩,
  ⟨(some 15), .bin .add (.tmp 14) (.const (.int .i64 1)), none⟩,
  ⟨(some 7), .mv (.tmp 15), none⟩]))))))
 (.seq (.reg [⟨(some 19), .mv (.tmp 5), none⟩,
  ⟨(some 4), .mv (.tmp 19), none⟩])
 (.ret))))
def r_spec_l6Power : List ARes := [.tmp 4]
theorem ok_spec_l6Power : FnOk Try.prog 60 20 c_spec_l6Power r_spec_l6Power := ⟨⟨Try.f60, _, Try.func60, by kernel_rfl, rfl, rfl, by kernel_rfl, by kernel_rfl⟩⟩
def c_spec_l6After : ACode := .seq (.reg [⟨(some 4), .box 26 (.tmp 0), none⟩,
  ⟨(some 8), .mv (.const (.int .i64 0)), none⟩])
 (.seq (.reg [⟨(some 9), .mv (.const (.int .i64 0)), none⟩])
 (.seq (.seq (.reg [⟨(some 10), .mv (.const (.int .i64 0)), none⟩])
 (.block 0 (.loop (.seq (.seq (.reg [⟨(some 11), .mv (.tmp 10), none⟩,
  ⟨(some 12), .fad 1 (.tmp 4), none⟩,
  ⟨(some 13), .ld none (.tmp 12), none⟩,
  ⟨(some 14), .len (.tmp 13), none⟩,
  ⟨(some 15), .bin .lss (.tmp 11) (.tmp 14), none⟩])
 (.cond (.tmp 15) (.skip) (.exit 0)))
 (.seq (.block 1 (.reg [⟨(some 18), .mv (.tmp 9), none⟩,
  ⟨(some 19), .fad 1 (.tmp 4), none⟩,
  ⟨(some 20), .ld none (.tmp 19), none⟩,
  ⟨(some 21), .mv (.tmp 10), none⟩,
  ⟨(some 22), .iad 1 (.tmp 20) (.tmp 21), none⟩,
  ⟨(some 23), .ld none (.tmp 22), none⟩,
  ⟨(some 24), .ld (some 6) (.tmp 4), none⟩,
  ⟨(some 25), .mv (.tmp 2), none⟩,
  ⟨(some 26), .mv (.tmp 10), none⟩,
  ⟨(some 27), .bin .sub (.tmp 25) (.tmp 26), none⟩,
  ⟨(some 29), .ld (some 6) (.tmp 4), none⟩,
  ⟨(some 30), .mv (.tmp 3), none⟩,
  ⟨(some 31), .bin .sub (.tmp 30) (.const (.int .i64 1)), none⟩,
  ⟨(some 34), .mv (.tmp 1), none⟩,
  ⟨(some 35), .mv (.tmp 2), none⟩,
  ⟨(some 36), .mv (.tmp 10), none⟩,
  ⟨(some 37), .bin .sub (.tmp 35) (.tmp 36), none⟩,
  ⟨(some 38), .bin .add (.tmp 37) (.const (.int .i64 10)), none⟩,
  ⟨(some 39), .iad 1 (.tmp 34) (.tmp 38), none⟩,
  ⟨(some 40), .ld none (.tmp 39), none⟩,
  ⟨(some 28), .rcall (.func 79) [(.tmp 24), (.tmp 27)], none⟩,
  ⟨(some 32), .rcall (.func 60) [(.tmp 29), (.tmp 31)], none⟩,
  ⟨(some 33), .bin .mul (.tmp 28) (.tmp 32), none⟩,
  ⟨(some 41), .bin .add (.tmp 33) (.tmp 40), none⟩,
  ⟨(some 42), .bin .mul (.tmp 23) (.tmp 41), none⟩,
  ⟨(some 43), .bin .add (.tmp 18) (.tmp 42), none⟩,
  ⟨(some 9), .mv (.tmp 43), none⟩]))
 (.reg [⟨(some 16), .mv (.tmp 10), none⟩,
  ⟨(some 17), .bin .add (.tmp 16) (.const (.int .i64 1)), none⟩,
  ⟨(some 10), .mv (.tmp 17), none⟩]))))))
 (.seq (.reg [⟨(some 44), .mv (.tmp 9), none⟩,
  ⟨(some 8), .mv (.tmp 44), none⟩])
 (.ret))))
def r_spec_l6After : List ARes := [.tmp 8]
theorem ok_spec_l6After : FnOk Try.prog 61 45 c_spec_l6After r_spec_l6After := ⟨⟨Try.f61, _, Try.func61, by kernel_rfl, rfl, rfl, by kernel_rfl, by kernel_rfl⟩⟩
def c_impl_powerFrom : ACode := .seq (.reg [⟨(some 2), .box 26 (.tmp 0), none⟩,
  ⟨(some 4), .mv (.const (.int .i64 0)), none⟩])
 (.seq (.reg [⟨(some 5), .mv (.const (.int .i64 1)), none⟩])
 (.seq (.seq (.reg [⟨(some 6), .fad 0 (.tmp 2), none⟩,
  ⟨(some 7), .ld none (.tmp 6), none⟩,
  ⟨(some 8), .mv (.tmp 1), none⟩,
  ⟨(some 9), .bin .sub (.tmp 7) (.tmp 8), none⟩,
  ⟨(some 10), .mv (.const (.int .i64 0)), none⟩])
 (.block 0 (.loop (.seq (.reg [⟨(some 11), .bin .lss (.tmp 10) (.tmp 9), none⟩])
 (.seq (.cond (.tmp 11) (.skip) (.exit 0))
 (.seq (.block 1 (.reg [⟨(some 12), .mv (.tmp 5), none⟩,
  ⟨(some 13), .fad 1 (.tmp 2), none⟩,
  ⟨(some 14), .ld none (.tmp 13), none⟩,
  ⟨(some 15), .call (.func 80) [(.tmp 14)], none⟩,
  ⟨(some 16), .bin .mul (.tmp 12) (.tmp 15), none⟩,
  ⟨(some 5), .mv (.tmp 16), none⟩]))
 (.reg [⟨(some 17), .bin .add (.tmp 10) (.const (.int .i64 1)), none⟩,
  ⟨(some 10), .mv (.tmp 17), none⟩])))))))
 (.seq (.reg [⟨(some 18), .mv (.tmp 5), none⟩,
  ⟨(some 4), .mv (.tmp 18), none⟩])
 (.ret))))
def r_impl_powerFrom : List ARes := [.tmp 4]
theorem ok_impl_powerFrom : FnOk Try.prog 62 19 c_impl_powerFrom r_impl_powerFrom := ⟨⟨Try.f62, _, Try.func62, by kernel_rfl, rfl, rfl, by kernel_rfl, by kernel_rfl⟩⟩
def c_impl_askedCost : ACode := .seq (.reg [⟨(some 4), .box 26 (.tmp 0), none⟩,
  ⟨(some 8), .mv (.const (.int .i64 0)), none⟩])
 (.seq (.reg [⟨(some 9), .mv (.const (.int .i64 0)), none⟩])
 (.seq (.seq (.reg [⟨(some 12), .fad 1 (.tmp 4), none⟩,
  ⟨(some 13), .ld none (.tmp 12), none⟩,
  ⟨(some 14), .len (.tmp 13), none⟩,
  ⟨(some 15), .mv (.const (.int .i64 0)), none⟩])
 (.block 0 (.loop (.seq (.reg [⟨(some 16), .bin .lss (.tmp 15) (.tmp 14), none⟩])
 (.seq (.cond (.tmp 16) (.skip) (.exit 0))
 (.seq (.block 1 (.seq (.reg [⟨(some 17), .mv (.tmp 15), none⟩,
  ⟨(some 18), .iad 1 (.tmp 13) (.tmp 15), none⟩,
  ⟨(some 19), .ld none (.tmp 18), none⟩,
  ⟨(some 10), .mv (.tmp 17), none⟩,
  ⟨(some 11), .mv (.tmp 19), none⟩])
 (.reg [⟨(some 20), .mv (.tmp 9), none⟩,
  ⟨(some 21), .mv (.tmp 11), none⟩,
  ⟨(some 22), .ld (some 6) (.tmp 4), none⟩,
  ⟨(some 23), .mv (.tmp 2), none⟩,
  ⟨(some 24), .mv (.tmp 10), none⟩,
  ⟨(some 25), .bin .sub (.tmp 23) (.tmp 24), none⟩,
  ⟨(some 27), .ld (some 6) (.tmp 4), none⟩,
  ⟨(some 28), .mv (.tmp 1), none⟩,
  ⟨(some 29), .bin .add (.tmp 28) (.const (.int .i64 1)), none⟩,
  ⟨(some 32), .mv (.tmp 3), none⟩,
  ⟨(some 33), .mv (.tmp 2), none⟩,
  ⟨(some 34), .mv (.tmp 10), none⟩,
  ⟨(some 35), .bin .sub (.tmp 33) (.tmp 34), none⟩,
  ⟨(some 26), .rcall (.func 81) [(.tmp 22), (.tmp 25)], none⟩,
  ⟨(some 30), .rcall (.func 62) [(.tmp 27), (.tmp 29)], none⟩,
  ⟨(some 31), .bin .mul (.tmp 26) (.tmp 30), none⟩,
  ⟨(some 36), .rcall (.func 72) [(.tmp 35)], none⟩,
  ⟨(some 37), .iad 1 (.tmp 32) (.tmp 36), none⟩,
  ⟨(some 38), .ld none (.tmp 37), none⟩,
  ⟨(some 39), .bin .add (.tmp 31) (.tmp 38), none⟩,
  ⟨(some 40), .bin .mul (.tmp 21) (.tmp 39), none⟩,
  ⟨(some 41), .bin .add (.tmp 20) (.tmp 40), none⟩,
  ⟨(some 9), .mv (.tmp 41), none⟩])))
 (.reg [⟨(some 42), .bin .add (.tmp 15) (.const (.int .i64 1)), none⟩,
  ⟨(some 15), .mv (.tmp 42), none⟩])))))))
 (.seq (.reg [⟨(some 43), .mv (.tmp 9), none⟩,
  ⟨(some 8), .mv (.tmp 43), none⟩])
 (.ret))))
def r_impl_askedCost : List ARes := [.tmp 8]
theorem ok_impl_askedCost : FnOk Try.prog 63 44 c_impl_askedCost r_impl_askedCost := ⟨⟨Try.f63, _, Try.func63, by kernel_rfl, rfl, rfl, by kernel_rfl, by kernel_rfl⟩⟩
def c_spec_l6Bill : ACode := .seq (.reg [⟨(some 4), .box 26 (.tmp 0), none⟩,
  ⟨(some 8), .mv (.const (.int .i64 0)), none⟩])
 (.seq (.reg [⟨(some 9), .fad 3 (.tmp 4), none⟩,
  ⟨(some 10), .ld none (.tmp 9), none⟩,
  ⟨(some 11), .mv (.tmp 2), none⟩,
  ⟨(some 12), .bin .mul (.tmp 10) (.tmp 11), none⟩,
  ⟨(some 13), .ld (some 6) (.tmp 4), none⟩,
  ⟨(some 14), .mv (.tmp 3), none⟩,
  ⟨(some 17), .ld (some 6) (.tmp 4), none⟩,
  ⟨(some 18), .mv (.tmp 1), none⟩,
  ⟨(some 19), .mv (.tmp 2), none⟩,
  ⟨(some 20), .mv (.tmp 3), none⟩,
  ⟨(some 15), .rcall (.func 60) [(.tmp 13), (.tmp 14)], none⟩,
  ⟨(some 16), .bin .mul (.tmp 12) (.tmp 15), none⟩,
  ⟨(some 21), .rcall (.func 61) [(.tmp 17), (.tmp 18), (.tmp 19), (.tmp 20)], none⟩,
  ⟨(some 22), .bin .add (.tmp 16) (.tmp 21), none⟩,
  ⟨(some 8), .mv (.tmp 22), none⟩])
 (.ret))
def r_spec_l6Bill : List ARes := [.tmp 8]
theorem ok_spec_l6Bill : FnOk Try.prog 64 23 c_spec_l6Bill r_spec_l6Bill := ⟨⟨Try.f64, _, Try.func64, by kernel_rfl, rfl, rfl, by kernel_rfl, by kernel_rfl⟩⟩
def c_impl_areValues_1 : ACode := .seq (.reg [⟨(some 2), .mv (.const (.bool false)), none⟩])
 (.seq (.reg [⟨(some 3), .mv (.tmp 0), none⟩,
  ⟨(some 4), .call (.func 52) [(.tmp 3), (.const (.int .i64 1000000000000))], none⟩,
  ⟨(some 5), .un .not (.tmp 4), none⟩,
  ⟨(some 2), .mv (.tmp 5), none⟩])
 (.ret))
def r_impl_areValues_1 : List ARes := [.tmp 2]
theorem ok_impl_areValues_1 : FnOk Try.prog 65 6 c_impl_areValues_1 r_impl_areValues_1 := ⟨⟨Try.f65, _, Try.func65, by kernel_rfl, rfl, rfl, by kernel_rfl, by kernel_rfl⟩⟩
def c_slices_ContainsFunc : ACode := .seq (.reg [⟨(some 4), .mv (.const (.bool false)), none⟩])
 (.seq (.reg [⟨(some 5), .mv (.tmp 0), none⟩,
  ⟨(some 6), .mv (.tmp 1), none⟩,
  ⟨(some 7), .call (.func 75) [(.tmp 5), (.tmp 6)], none⟩,
  ⟨(some 8), .bin .geq (.tmp 7) (.const (.int .i64 0)), none⟩,
  ⟨(some 4), .mv (.tmp 8), none⟩])
 (.ret))
def r_slices_ContainsFunc : List ARes := [.tmp 4]
theorem ok_slices_ContainsFunc : FnOk Try.prog 66 9 c_slices_ContainsFunc r_slices_ContainsFunc := ⟨⟨Try.f66, _, Try.func66, by kernel_rfl, rfl, rfl, by kernel_rfl, by kernel_rfl⟩⟩
def c_impl_areWeights : ACode := .seq (.reg [⟨(some 6), .mv (.const (.bool false)), none⟩])
 (.seq (.reg [⟨(some 7), .mv (.tmp 0), none⟩,
  ⟨(some 8), .len (.tmp 7), none⟩,
  ⟨(some 9), .mv (.tmp 1), none⟩,
  ⟨(some 10), .bin .leq (.tmp 8) (.tmp 9), none⟩,
  ⟨(some 11), .mv (.tmp 10), none⟩,
  ⟨(some 12), .mv (.tmp 0), (some (11, true))⟩,
  ⟨(some 13), .mv (.tmp 0), (some (11, true))⟩,
  ⟨(some 14), .len (.tmp 13), (some (11, true))⟩,
  ⟨(some 15), .mv (.tmp 2), (some (11, true))⟩,
  ⟨(some 16), .call (.func 82) [(.tmp 12), (.tmp 14), (.tmp 15)], (some (11, true))⟩,
  ⟨(some 17), .pick (.tmp 11) (.tmp 16) (.const (.bool false)), none⟩,
  ⟨(some 18), .mv (.tmp 17), none⟩,
  ⟨(some 19), .mv (.tmp 0), (some (18, true))⟩,
  ⟨(some 20), .call (.func 80) [(.tmp 19)], (some (18, true))⟩,
  ⟨(some 21), .bin .gtr (.tmp 20) (.const (.int .i64 0)), (some (18, true))⟩,
  ⟨(some 22), .pick (.tmp 18) (.tmp 21) (.const (.bool false)), none⟩,
  ⟨(some 6), .mv (.tmp 22), none⟩])
 (.ret))
def r_impl_areWeights : List ARes := [.tmp 6]
theorem ok_impl_areWeights : FnOk Try.prog 67 23 c_impl_areWeights r_impl_areWeights := ⟨⟨Try.f67, _, Try.func67, by kernel_rfl, rfl, rfl, by kernel_rfl, by kernel_rfl⟩⟩
def c_impl_isValueTable_1 : ACode := .seq (.reg [⟨(some 2), .mv (.const (.bool false)), none⟩])
 (.seq (.reg [⟨(some 3), .mv (.tmp 0), none⟩,
  ⟨(some 4), .len (.tmp 3), none⟩,
  ⟨(some 5), .bin .neq (.tmp 4) (.const (.int .i64 21)), none⟩,
  ⟨(some 6), .mv (.tmp 5), none⟩,
  ⟨(some 7), .mv (.tmp 0), (some (6, false))⟩,
  ⟨(some 8), .call (.func 37) [(.tmp 7)], (some (6, false))⟩,
  ⟨(some 9), .un .not (.tmp 8), (some (6, false))⟩,
  ⟨(some 10), .pick (.tmp 6) (.const (.bool true)) (.tmp 9), none⟩,
  ⟨(some 2), .mv (.tmp 10), none⟩])
 (.ret))
def r_impl_isValueTable_1 : List ARes := [.tmp 2]
theorem ok_impl_isValueTable_1 : FnOk Try.prog 68 11 c_impl_isValueTable_1 r_impl_isValueTable_1 := ⟨⟨Try.f68, _, Try.func68, by kernel_rfl, rfl, rfl, by kernel_rfl, by kernel_rfl⟩⟩
def c_slices_ContainsFunc_sint : ACode := .seq (.reg [⟨(some 4), .mv (.const (.bool false)), none⟩])
 (.seq (.reg [⟨(some 5), .mv (.tmp 0), none⟩,
  ⟨(some 6), .mv (.tmp 1), none⟩,
  ⟨(some 7), .call (.func 83) [(.tmp 5), (.tmp 6)], none⟩,
  ⟨(some 8), .bin .geq (.tmp 7) (.const (.int .i64 0)), none⟩,
  ⟨(some 4), .mv (.tmp 8), none⟩])
 (.ret))
def r_slices_ContainsFunc_sint : List ARes := [.tmp 4]
theorem ok_slices_ContainsFunc_sint : FnOk Try.prog 69 9 c_slices_ContainsFunc_sint r_slices_ContainsFunc_sint := ⟨⟨Try.f69, _, Try.func69, by kernel_rfl, rfl, rfl, by kernel_rfl, by kernel_rfl⟩⟩
def c_slices_Max : ACode := .seq (.reg [⟨(some 2), .mv (.const (.int .i64 0)), none⟩])
 (.seq (.seq (.reg [⟨(some 5), .mv (.tmp 0), none⟩,
  ⟨(some 6), .len (.tmp 5), none⟩,
  ⟨(some 7), .bin .lss (.tmp 6) (.const (.int .i64 1)), none⟩])
 (.cond (.tmp 7) (.reg [⟨(some 8), .mif 9 (.const (.string ⟨#[115, 108, 105, 99, 101, 115, 46, 77, 97, 120, 58, 32, 101, 109, 112, 116, 121, 32, 108, 105, 115, 116]⟩)), none⟩,
  ⟨none, .never, none⟩]) (.skip)))
 (.seq (.reg [⟨(some 9), .mv (.tmp 0), none⟩,
  ⟨(some 10), .iad 1 (.tmp 9) (.const (.int .i64 0)), none⟩,
  ⟨(some 11), .ld none (.tmp 10), none⟩,
  ⟨(some 3), .mv (.tmp 11), none⟩])
 (.seq (.seq (.reg [⟨(some 4), .mv (.const (.int .i64 1)), none⟩])
 (.block 0 (.loop (.seq (.seq (.reg [⟨(some 12), .mv (.tmp 4), none⟩,
  ⟨(some 13), .mv (.tmp 0), none⟩,
  ⟨(some 14), .len (.tmp 13), none⟩,
  ⟨(some 15), .bin .lss (.tmp 12) (.tmp 14), none⟩])
 (.cond (.tmp 15) (.skip) (.exit 0)))
 (.seq (.block 1 (.reg [⟨(some 18), .mv (.tmp 3), none⟩,
  ⟨(some 19), .mv (.tmp 0), none⟩,
  ⟨(some 20), .mv (.tmp 4), none⟩,
  ⟨(some 21), .iad 1 (.tmp 19) (.tmp 20), none⟩,
  ⟨(some 22), .ld none (.tmp 21), none⟩,
  ⟨(some 23), .mmx true (.tmp 18) (.tmp 22), none⟩,
  ⟨(some 3), .mv (.tmp 23), none⟩]))
 (.reg [⟨(some 16), .mv (.tmp 4), none⟩,
  ⟨(some 17), .bin .add (.tmp 16) (.const (.int .i64 1)), none⟩,
  ⟨(some 4), .mv (.tmp 17), none⟩]))))))
 (.seq (.reg [⟨(some 24), .mv (.tmp 3), none⟩,
  ⟨(some 2), .mv (.tmp 24), none⟩])
 (.ret)))))
def r_slices_Max : List ARes := [.tmp 2]
theorem ok_slices_Max : FnOk Try.prog 70 25 c_slices_Max r_slices_Max := ⟨⟨Try.f70, _, Try.func70, by kernel_rfl, rfl, rfl, by kernel_rfl, by kernel_rfl⟩⟩
def c_impl_firstMove : ACode := .seq (.reg [⟨(some 2), .box 26 (.tmp 0), none⟩,
  ⟨(some 4), .alc 60 [(.int .i64 0), (.int .i64 0), (.int .i64 0)], none⟩])
 (.seq (.reg [⟨(some 5), .mv (.tmp 1), none⟩,
  ⟨(some 6), .ld (some 6) (.tmp 2), none⟩,
  ⟨(some 7), .call (.func 53) [(.tmp 6)], none⟩,
  ⟨(some 8), .bld [(.int .i64 0), (.int .i64 0), (.int .i64 0)] [(0, 1, (.tmp 5)), (1, 1, (.const (.int .i64 (-10)))), (2, 1, (.tmp 7))], none⟩,
  ⟨none, .st 3 (.tmp 4) (.tmp 8), none⟩])
 (.ret))
def r_impl_firstMove : List ARes := [.cell 4 (some 3)]
theorem ok_impl_firstMove : FnOk Try.prog 71 9 c_impl_firstMove r_impl_firstMove := ⟨⟨Try.f71, _, Try.func71, by kernel_rfl, rfl, rfl, by kernel_rfl, by kernel_rfl⟩⟩
def c_impl_placeOf : ACode := .seq (.reg [⟨(some 2), .mv (.const (.int .i64 0)), none⟩])
 (.seq (.reg [⟨(some 3), .mv (.tmp 0), none⟩,
  ⟨(some 4), .bin .add (.tmp 3) (.const (.int .i64 10)), none⟩,
  ⟨(some 2), .mv (.tmp 4), none⟩])
 (.ret))
def r_impl_placeOf : List ARes := [.tmp 2]
theorem ok_impl_placeOf : FnOk Try.prog 72 5 c_impl_placeOf r_impl_placeOf := ⟨⟨Try.f72, _, Try.func72, by kernel_rfl, rfl, rfl, by kernel_rfl, by kernel_rfl⟩⟩
def c_spec_l2Row : ACode := .seq (.reg [⟨(some 6), .mv (.const (.bool false)), none⟩])
 (.seq (.seq (.reg [⟨(some 7), .mv (.const (.int .i64 0)), none⟩])
 (.block 0 (.loop (.seq (.seq (.reg [⟨(some 8), .mv (.tmp 7), none⟩,
  ⟨(some 9), .mv (.tmp 0), none⟩,
  ⟨(some 10), .len (.tmp 9), none⟩,
  ⟨(some 11), .bin .lss (.tmp 8) (.tmp 10), none⟩])
 (.cond (.tmp 11) (.skip) (.exit 0)))
 (.seq (.block 1 (.seq (.reg [⟨(some 14), .mv (.tmp 0), none⟩,
  ⟨(some 15), .mv (.tmp 7), none⟩,
  ⟨(some 16), .iad 1 (.tmp 14) (.tmp 15), none⟩,
  ⟨(some 17), .ld none (.tmp 16), none⟩,
  ⟨(some 18), .mv (.tmp 2), none⟩,
  ⟨(some 19), .call (.func 40) [(.tmp 17), (.const (.int .i64 0)), (.tmp 18)], none⟩,
  ⟨(some 20), .un .not (.tmp 19), none⟩])
 (.cond (.tmp 20) (.seq (.reg [⟨(some 6), .mv (.const (.bool false)), none⟩])
 (.ret)) (.skip))))
 (.reg [⟨(some 12), .mv (.tmp 7), none⟩,
  ⟨(some 13), .bin .add (.tmp 12) (.const (.int .i64 1)), none⟩,
  ⟨(some 7), .mv (.tmp 13), none⟩]))))))
 (.seq (.reg [⟨(some 21), .mv (.tmp 0), none⟩,
  ⟨(some 22), .len (.tmp 21), none⟩,
  ⟨(some 23), .mv (.tmp 1), none⟩,
  ⟨(some 24), .bin .eql (.tmp 22) (.tmp 23), none⟩,
  ⟨(some 6), .mv (.tmp 24), none⟩])
 (.ret)))
def r_spec_l2Row : List ARes := [.tmp 6]
theorem ok_spec_l2Row : FnOk Try.prog 73 25 c_spec_l2Row r_spec_l2Row := ⟨⟨Try.f73, _, Try.func73, by kernel_rfl, rfl, rfl, by kernel_rfl, by kernel_rfl⟩⟩
def c_slices_Min : ACode := .seq (.reg [⟨(some 2), .mv (.const (.int .i64 0)), none⟩])
 (.seq (.seq (.reg [⟨(some 5), .mv (.tmp 0), none⟩,
  ⟨(some 6), .len (.tmp 5), none⟩,
  ⟨(some 7), .bin .lss (.tmp 6) (.const (.int .i64 1)), none⟩])
 (.cond (.tmp 7) (.reg [⟨(some 8), .mif 9 (.const (.string ⟨#[115, 108, 105, 99, 101, 115, 46, 77, 105, 110, 58, 32, 101, 109, 112, 116, 121, 32, 108, 105, 115, 116]⟩)), none⟩,
  ⟨none, .never, none⟩]) (.skip)))
 (.seq (.reg [⟨(some 9), .mv (.tmp 0), none⟩,
  ⟨(some 10), .iad 1 (.tmp 9) (.const (.int .i64 0)), none⟩,
  ⟨(some 11), .ld none (.tmp 10), none⟩,
  ⟨(some 3), .mv (.tmp 11), none⟩])
 (.seq (.seq (.reg [⟨(some 4), .mv (.const (.int .i64 1)), none⟩])
 (.block 0 (.loop (.seq (.seq (.reg [⟨(some 12), .mv (.tmp 4), none⟩,
  ⟨(some 13), .mv (.tmp 0), none⟩,
  ⟨(some 14), .len (.tmp 13), none⟩,
  ⟨(some 15), .bin .lss (.tmp 12) (.tmp 14), none⟩])
 (.cond (.tmp 15) (.skip) (.exit 0)))
 (.seq (.block 1 (.reg [⟨(some 18), .mv (.tmp 3), none⟩,
  ⟨(some 19), .mv (.tmp 0), none⟩,
  ⟨(some 20), .mv (.tmp 4), none⟩,
  ⟨(some 21), .iad 1 (.tmp 19) (.tmp 20), none⟩,
  ⟨(some 22), .ld none (.tmp 21), none⟩,
  ⟨(some 23), .mmx false (.tmp 18) (.tmp 22), none⟩,
  ⟨(some 3), .mv (.tmp 23), none⟩]))
 (.reg [⟨(some 16), .mv (.tmp 4), none⟩,
  ⟨(some 17), .bin .add (.tmp 16) (.const (.int .i64 1)), none⟩,
  ⟨(some 4), .mv (.tmp 17), none⟩]))))))
 (.seq (.reg [⟨(some 24), .mv (.tmp 3), none⟩,
  ⟨(some 2), .mv (.tmp 24), none⟩])
 (.ret)))))
def r_slices_Min : List ARes := [.tmp 2]
theorem ok_slices_Min : FnOk Try.prog 74 25 c_slices_Min r_slices_Min := ⟨⟨Try.f74, _, Try.func74, by kernel_rfl, rfl, rfl, by kernel_rfl, by kernel_rfl⟩⟩
def c_slices_IndexFunc : ACode := .seq (.reg [⟨(some 4), .mv (.const (.int .i64 0)), none⟩])
 (.seq (.seq (.reg [⟨(some 6), .mv (.tmp 0), none⟩,
  ⟨(some 7), .len (.tmp 6), none⟩,
  ⟨(some 8), .mv (.const (.int .i64 0)), none⟩])
 (.block 0 (.loop (.seq (.reg [⟨(some 9), .bin .lss (.tmp 8) (.tmp 7), none⟩])
 (.seq (.cond (.tmp 9) (.skip) (.exit 0))
 (.seq (.block 1 (.seq (.reg [⟨(some 10), .mv (.tmp 8), none⟩,
  ⟨(some 5), .mv (.tmp 10), none⟩])
 (.seq (.reg [⟨(some 11), .mv (.tmp 1), none⟩,
  ⟨(some 12), .mv (.tmp 0), none⟩,
  ⟨(some 13), .mv (.tmp 5), none⟩,
  ⟨(some 14), .iad 1 (.tmp 12) (.tmp 13), none⟩,
  ⟨(some 15), .ld none (.tmp 14), none⟩,
  ⟨(some 16), .call (.tmp 11) [(.tmp 15)], none⟩])
 (.cond (.tmp 16) (.seq (.reg [⟨(some 17), .mv (.tmp 5), none⟩,
  ⟨(some 4), .mv (.tmp 17), none⟩])
 (.ret)) (.skip)))))
 (.reg [⟨(some 18), .bin .add (.tmp 8) (.const (.int .i64 1)), none⟩,
  ⟨(some 8), .mv (.tmp 18), none⟩])))))))
 (.seq (.reg [⟨(some 4), .mv (.const (.int .i64 (-1))), none⟩])
 (.ret)))
def r_slices_IndexFunc : List ARes := [.tmp 4]
theorem ok_slices_IndexFunc : FnOk Try.prog 75 19 c_slices_IndexFunc r_slices_IndexFunc := ⟨⟨Try.f75, _, Try.func75, by kernel_rfl, rfl, rfl, by kernel_rfl, by kernel_rfl⟩⟩
def c_impl_bestPair_1 : ACode := .seq (.reg [⟨(some 3), .mv (.const (.bool false)), none⟩])
 (.seq (.reg [⟨(some 4), .mv (.tmp 0), none⟩,
  ⟨(some 5), .ld none (.tmp 1), none⟩,
  ⟨(some 6), .bin .leq (.tmp 4) (.tmp 5), none⟩,
  ⟨(some 3), .mv (.tmp 6), none⟩])
 (.ret))
def r_impl_bestPair_1 : List ARes := [.tmp 3]
theorem ok_impl_bestPair_1 : FnOk Try.prog 76 7 c_impl_bestPair_1 r_impl_bestPair_1 := ⟨⟨Try.f76, _, Try.func76, by kernel_rfl, rfl, rfl, by kernel_rfl, by kernel_rfl⟩⟩
def c_slices_Index : ACode := .seq (.reg [⟨(some 4), .mv (.const (.int .i64 0)), none⟩])
 (.seq (.seq (.reg [⟨(some 6), .mv (.tmp 0), none⟩,
  ⟨(some 7), .len (.tmp 6), none⟩,
  ⟨(some 8), .mv (.const (.int .i64 0)), none⟩])
 (.block 0 (.loop (.seq (.reg [⟨(some 9), .bin .lss (.tmp 8) (.tmp 7), none⟩])
 (.seq (.cond (.tmp 9) (.skip) (.exit 0))
 (.seq (.block 1 (.seq (.reg [⟨(some 10), .mv (.tmp 8), none⟩,
  ⟨(some 5), .mv (.tmp 10), none⟩])
 (.seq (.reg [⟨(some 11), .mv (.tmp 1), none⟩,
  ⟨(some 12), .mv (.tmp 0), none⟩,
  ⟨(some 13), .mv (.tmp 5), none⟩,
  ⟨(some 14), .iad 1 (.tmp 12) (.tmp 13), none⟩,
  ⟨(some 15), .ld none (.tmp 14), none⟩,
  ⟨(some 16), .bin .eql (.tmp 11) (.tmp 15), none⟩])
 (.cond (.tmp 16) (.seq (.reg [⟨(some 17), .mv (.tmp 5), none⟩,
  ⟨(some 4), .mv (.tmp 17), none⟩])
 (.ret)) (.skip)))))
 (.reg [⟨(some 18), .bin .add (.tmp 8) (.const (.int .i64 1)), none⟩,
  ⟨(some 8), .mv (.tmp 18), none⟩])))))))
 (.seq (.reg [⟨(some 4), .mv (.const (.int .i64 (-1))), none⟩])
 (.ret)))
def r_slices_Index : List ARes := [.tmp 4]
theorem ok_slices_Index : FnOk Try.prog 77 19 c_slices_Index r_slices_Index := ⟨⟨Try.f77, _, Try.func77, by kernel_rfl, rfl, rfl, by kernel_rfl, by kernel_rfl⟩⟩
def c_impl_liftCost : ACode := .seq (.reg [⟨(some 3), .box 26 (.tmp 0), none⟩,
  ⟨(some 6), .mv (.const (.int .i64 0)), none⟩])
 (.seq (.reg [⟨(some 8), .fad 3 (.tmp 3), none⟩,
  ⟨(some 9), .ld none (.tmp 8), none⟩,
  ⟨(some 10), .mv (.tmp 2), none⟩,
  ⟨(some 11), .mv (.tmp 1), none⟩,
  ⟨(some 12), .bin .sub (.tmp 10) (.tmp 11), none⟩,
  ⟨(some 13), .bin .mul (.tmp 9) (.tmp 12), none⟩,
  ⟨(some 7), .mv (.tmp 13), none⟩])
 (.seq (.seq (.reg [⟨(some 14), .mv (.tmp 2), none⟩,
  ⟨(some 15), .mv (.tmp 1), none⟩,
  ⟨(some 16), .bin .gtr (.tmp 14) (.tmp 15), none⟩])
 (.cond (.tmp 16) (.reg [⟨(some 17), .mv (.tmp 7), none⟩,
  ⟨(some 18), .fad 2 (.tmp 3), none⟩,
  ⟨(some 19), .ld none (.tmp 18), none⟩,
  ⟨(some 20), .bin .add (.tmp 17) (.tmp 19), none⟩,
  ⟨(some 7), .mv (.tmp 20), none⟩]) (.skip)))
 (.seq (.reg [⟨(some 21), .mv (.tmp 7), none⟩,
  ⟨(some 6), .mv (.tmp 21), none⟩])
 (.ret))))
def r_impl_liftCost : List ARes := [.tmp 6]
theorem ok_impl_liftCost : FnOk Try.prog 78 22 c_impl_liftCost r_impl_liftCost := ⟨⟨Try.f78, _, Try.func78, by kernel_rfl, rfl, rfl, by kernel_rfl, by kernel_rfl⟩⟩
def c_spec_l6Kept : ACode := .seq (.reg [⟨(some 2), .box 26 (.tmp 0), none⟩,
  ⟨(some 4), .mv (.const (.int .i64 0)), none⟩])
 (.seq (.seq (.reg [⟨(some 5), .mv (.tmp 1), none⟩,
  ⟨(some 6), .bin .gtr (.tmp 5) (.const (.int .i64 0)), none⟩])
 (.cond (.tmp 6) (.seq (.reg [⟨(some 7), .fad 4 (.tmp 2), none⟩,
  ⟨(some 8), .ld none (.tmp 7), none⟩,
  ⟨(some 9), .mv (.tmp 1), none⟩,
  ⟨(some 10), .bin .mul (.tmp 8) (.tmp 9), none⟩,
  ⟨(some 4), .mv (.tmp 10), none⟩])
 (.ret)) (.skip)))
 (.seq (.reg [⟨(some 11), .fad 5 (.tmp 2), none⟩,
  ⟨(some 12), .ld none (.tmp 11), none⟩,
  ⟨(some 13), .un .neg (.tmp 12), none⟩,
  ⟨(some 14), .mv (.tmp 1), none⟩,
  ⟨(some 15), .bin .mul (.tmp 13) (.tmp 14), none⟩,
  ⟨(some 4), .mv (.tmp 15), none⟩])
 (.ret)))
def r_spec_l6Kept : List ARes := [.tmp 4]
theorem ok_spec_l6Kept : FnOk Try.prog 79 16 c_spec_l6Kept r_spec_l6Kept := ⟨⟨Try.f79, _, Try.func79, by kernel_rfl, rfl, rfl, by kernel_rfl, by kernel_rfl⟩⟩
def c_impl_sumOf : ACode := .seq (.reg [⟨(some 2), .mv (.const (.int .i64 0)), none⟩])
 (.seq (.reg [⟨(some 3), .mv (.const (.int .i64 0)), none⟩])
 (.seq (.seq (.reg [⟨(some 6), .mv (.tmp 0), none⟩,
  ⟨(some 7), .len (.tmp 6), none⟩,
  ⟨(some 8), .mv (.const (.int .i64 0)), none⟩])
 (.block 0 (.loop (.seq (.reg [⟨(some 9), .bin .lss (.tmp 8) (.tmp 7), none⟩])
 (.seq (.cond (.tmp 9) (.skip) (.exit 0))
 (.seq (.block 1 (.seq (.reg [⟨(some 10), .iad 1 (.tmp 6) (.tmp 8), none⟩,
  ⟨(some 11), .ld none (.tmp 10), none⟩,
  ⟨(some 5), .mv (.tmp 11), none⟩])
 (.reg [⟨(some 12), .mv (.tmp 3), none⟩,
  ⟨(some 13), .mv (.tmp 5), none⟩,
  ⟨(some 14), .bin .add (.tmp 12) (.tmp 13), none⟩,
  ⟨(some 3), .mv (.tmp 14), none⟩])))
 (.reg [⟨(some 15), .bin .add (.tmp 8) (.const (.int .i64 1)), none⟩,
  ⟨(some 8), .mv (.tmp 15), none⟩])))))))
 (.seq (.reg [⟨(some 16), .mv (.tmp 3), none⟩,
  ⟨(some 2), .mv (.tmp 16), none⟩])
 (.ret))))
def r_impl_sumOf : List ARes := [.tmp 2]
theorem ok_impl_sumOf : FnOk Try.prog 80 17 c_impl_sumOf r_impl_sumOf := ⟨⟨Try.f80, _, Try.func80, by kernel_rfl, rfl, rfl, by kernel_rfl, by kernel_rfl⟩⟩
def c_impl_levelCost : ACode := .seq (.reg [⟨(some 2), .box 26 (.tmp 0), none⟩,
  ⟨(some 4), .mv (.const (.int .i64 0)), none⟩])
 (.seq (.seq (.reg [⟨(some 5), .mv (.tmp 1), none⟩,
  ⟨(some 6), .call (.func 84) [(.tmp 5)], none⟩])
 (.cond (.tmp 6) (.seq (.reg [⟨(some 7), .fad 5 (.tmp 2), none⟩,
  ⟨(some 8), .ld none (.tmp 7), none⟩,
  ⟨(some 9), .un .neg (.tmp 8), none⟩,
  ⟨(some 10), .mv (.tmp 1), none⟩,
  ⟨(some 11), .bin .mul (.tmp 9) (.tmp 10), none⟩,
  ⟨(some 4), .mv (.tmp 11), none⟩])
 (.ret)) (.skip)))
 (.seq (.reg [⟨(some 12), .fad 4 (.tmp 2), none⟩,
  ⟨(some 13), .ld none (.tmp 12), none⟩,
  ⟨(some 14), .mv (.tmp 1), none⟩,
  ⟨(some 15), .bin .mul (.tmp 13) (.tmp 14), none⟩,
  ⟨(some 4), .mv (.tmp 15), none⟩])
 (.ret)))
def r_impl_levelCost : List ARes := [.tmp 4]
theorem ok_impl_levelCost : FnOk Try.prog 81 16 c_impl_levelCost r_impl_levelCost := ⟨⟨Try.f81, _, Try.func81, by kernel_rfl, rfl, rfl, by kernel_rfl, by kernel_rfl⟩⟩
def c_impl_isRow : ACode := .seq (.reg [⟨(some 5), .box 3 (.tmp 2), none⟩,
  ⟨(some 6), .mv (.const (.bool false)), none⟩])
 (.seq (.reg [⟨(some 8), .mkf 85 [] [(.tmp 5)], none⟩,
  ⟨(some 7), .mv (.tmp 8), none⟩])
 (.seq (.reg [⟨(some 9), .mv (.tmp 0), none⟩,
  ⟨(some 10), .len (.tmp 9), none⟩,
  ⟨(some 11), .mv (.tmp 1), none⟩,
  ⟨(some 12), .bin .eql (.tmp 10) (.tmp 11), none⟩,
  ⟨(some 13), .mv (.tmp 12), none⟩,
  ⟨(some 14), .mv (.tmp 0), (some (13, true))⟩,
  ⟨(some 15), .mv (.tmp 7), (some (13, true))⟩,
  ⟨(some 16), .call (.func 66) [(.tmp 14), (.tmp 15)], (some (13, true))⟩,
  ⟨(some 17), .un .not (.tmp 16), (some (13, true))⟩,
  ⟨(some 18), .pick (.tmp 13) (.tmp 17) (.const (.bool false)), none⟩,
  ⟨(some 6), .mv (.tmp 18), none⟩])
 (.ret)))
def r_impl_isRow : List ARes := [.tmp 6]
theorem ok_impl_isRow : FnOk Try.prog 82 19 c_impl_isRow r_impl_isRow := ⟨⟨Try.f82, _, Try.func82, by kernel_rfl, rfl, rfl, by kernel_rfl, by kernel_rfl⟩⟩
def c_slices_IndexFunc_sint : ACode := .seq (.reg [⟨(some 4), .mv (.const (.int .i64 0)), none⟩])
 (.seq (.seq (.reg [⟨(some 6), .mv (.tmp 0), none⟩,
  ⟨(some 7), .len (.tmp 6), none⟩,
  ⟨(some 8), .mv (.const (.int .i64 0)), none⟩])
 (.block 0 (.loop (.seq (.reg [⟨(some 9), .bin .lss (.tmp 8) (.tmp 7), none⟩])
 (.seq (.cond (.tmp 9) (.skip) (.exit 0))
 (.seq (.block 1 (.seq (.reg [⟨(some 10), .mv (.tmp 8), none⟩,
  ⟨(some 5), .mv (.tmp 10), none⟩])
 (.seq (.reg [⟨(some 11), .mv (.tmp 1), none⟩,
  ⟨(some 12), .mv (.tmp 0), none⟩,
  ⟨(some 13), .mv (.tmp 5), none⟩,
  ⟨(some 14), .iad 1 (.tmp 12) (.tmp 13), none⟩,
  ⟨(some 15), .ld none (.tmp 14), none⟩,
  ⟨(some 16), .call (.tmp 11) [(.tmp 15)], none⟩])
 (.cond (.tmp 16) (.seq (.reg [⟨(some 17), .mv (.tmp 5), none⟩,
  ⟨(some 4), .mv (.tmp 17), none⟩])
 (.ret)) (.skip)))))
 (.reg [⟨(some 18), .bin .add (.tmp 8) (.const (.int .i64 1)), none⟩,
  ⟨(some 8), .mv (.tmp 18), none⟩])))))))
 (.seq (.reg [⟨(some 4), .mv (.const (.int .i64 (-1))), none⟩])
 (.ret)))
def r_slices_IndexFunc_sint : List ARes := [.tmp 4]
theorem ok_slices_IndexFunc_sint : FnOk Try.prog 83 19 c_slices_IndexFunc_sint r_slices_IndexFunc_sint := ⟨⟨Try.f83, _, Try.func83, by kernel_rfl, rfl, rfl, by kernel_rfl, by kernel_rfl⟩⟩
def c_impl_isOwed : ACode := .seq (.reg [⟨(some 2), .mv (.const (.bool false)), none⟩])
 (.seq (.reg [⟨(some 3), .mv (.tmp 0), none⟩,
  ⟨(some 4), .bin .lss (.tmp 3) (.const (.int .i64 0)), none⟩,
  ⟨(some 2), .mv (.tmp 4), none⟩])
 (.ret))
def r_impl_isOwed : List ARes := [.tmp 2]
theorem ok_impl_isOwed : FnOk Try.prog 84 5 c_impl_isOwed r_impl_isOwed := ⟨⟨Try.f84, _, Try.func84, by kernel_rfl, rfl, rfl, by kernel_rfl, by kernel_rfl⟩⟩
def c_impl_isRow_1 : ACode := .seq (.reg [⟨(some 3), .mv (.const (.bool false)), none⟩])
 (.seq (.reg [⟨(some 4), .mv (.tmp 0), none⟩,
  ⟨(some 5), .ld none (.tmp 1), none⟩,
  ⟨(some 6), .call (.func 38) [(.tmp 4), (.tmp 5)], none⟩,
  ⟨(some 7), .un .not (.tmp 6), none⟩,
  ⟨(some 3), .mv (.tmp 7), none⟩])
 (.ret))
def r_impl_isRow_1 : List ARes := [.tmp 3]
theorem ok_impl_isRow_1 : FnOk Try.prog 85 8 c_impl_isRow_1 r_impl_isRow_1 := ⟨⟨Try.f85, _, Try.func85, by kernel_rfl, rfl, rfl, by kernel_rfl, by kernel_rfl⟩⟩
end Go.Proofs.Ytckpfgkgigicpaa.Ab
end
section
namespace Go.Proofs.Ytckpfgkgigicpaa.Ab
open Go Go.RowKit
set_option linter.unusedVariables false
set_option linter.unusedSimpArgs false
def inB (most x : Int) : Bool := decide (0 ≤ x) && decide (x ≤ most)
theorem rowB_all (l : List Int) (n : Nat) (most : Int) : Go.Proofs.Ytckpfgkgigicpaa.rowB l n most = (decide (l.length = n) && l.all (inB most)) := by
  rw [Bool.and_comm]; rfl
def allTo (f : Int → Bool) (l : List Int) (k : Nat) : Prop := ∀ j, j < k → f (l.getD j 0) = true
theorem allTo_all {f : Int → Bool} {l : List Int} (h : allTo f l l.length) : l.all f = true := by
  rw [List.all_eq_true]
  intro x hx
  obtain ⟨k, hk, rfl⟩ := List.getElem_of_mem hx
  have := h k hk
  rwa [List.getD_eq_getElem?_getD, List.getElem?_eq_getElem hk] at this
theorem allTo_no {f : Int → Bool} {l : List Int} {k : Nat} (hk : k < l.length) (h : f (l.getD k 0) = false) : l.all f = false := by
  rw [List.getD_eq_getElem?_getD, List.getElem?_eq_getElem hk] at h
  cases hr : l.all f with
  | false => rfl
  | true => rw [Option.getD_some, List.all_eq_true.1 hr _ (List.getElem_mem hk)] at h; cases h
theorem allTo_s {f : Int → Bool} {l : List Int} {k : Nat} (h : allTo f l k) (h2 : f (l.getD k 0) = true) : allTo f l (k + 1) := fun j hj => by
  by_cases e : j = k
  · rw [e]; exact h2
  · exact h j (by omega)

theorem l1In_rc (m : Mem) (x lo hi : Int) : RC Try.prog 40 [.int .i64 x, .int .i64 lo, .int .i64 hi] m fun r new => r = .bool (decide (lo ≤ x) && decide (x ≤ hi)) ∧ new = [] := by
  refine rc_of_run mixed ok_spec_l1In (by simp) (go_start _ _ _ ?_)
  by_cases h1 : lo ≤ x <;> by_cases h2 : x ≤ hi
  all_goals
    simp (config := {implicitDefEqProofs := false, maxDischargeDepth := 20}) (disch := first | omega | (simp only [lenE]; done) | (simp only [lenE]; omega) | rfl | (simp only [lenE, markR_len]; done) | (simp only [lenE, markR_len]; omega)) only [runE, mapE, listE, initT_5, initT_6, initT_7, initT_8, resV, oneV, binA, unA, reduceCtorEq, Nat.reduceEqDiff, Nat.reduceAdd, Nat.reduceLT, Nat.reduceLeDiff, Nat.reduceMul, Nat.reduceSub, ↓reduceIte, decide_true, decide_false, Bool.true_eq_false, Bool.false_eq_true, Bool.not_true, Bool.not_false, if_true, if_false, and_true, true_and, memE, celE, w64, Nat.zero_add, Nat.add_zero, Nat.mul_one, putL, and_self, ldn, c_spec_l1In, r_spec_l1In, h1, h2, ge_iff_le]
    exact newQ_nil ⟨by simp, rfl⟩

theorem l2Row_rc (m : Mem) (v : Value) (l : List Int) (n : Nat) (most : Int) (h : IntsA m v l) :
    RC Try.prog 73 [v, .int .i64 n, .int .i64 most] m fun r new => r = .bool (Go.Proofs.Ytckpfgkgigicpaa.rowB l n most) ∧ new = [] := by
  refine rc_of_run mixed ok_spec_l2Row (by simp) (go_start _ _ _ ?_)
  obtain ⟨e1, e2, e3, e4, -⟩ := h.ro
  rw [rowB_all]
  simp (config := {implicitDefEqProofs := false, maxDischargeDepth := 20}) (disch := first | omega | (simp only [lenE]; done) | (simp only [lenE]; omega) | rfl | (simp only [lenE, markR_len]; done) | (simp only [lenE, markR_len]; omega)) only [runE, mapE, listE, initT_5, initT_6, initT_7, initT_8, resV, oneV, binA, unA, reduceCtorEq, Nat.reduceEqDiff, Nat.reduceAdd, Nat.reduceLT, Nat.reduceLeDiff, Nat.reduceMul, Nat.reduceSub, ↓reduceIte, decide_true, decide_false, Bool.true_eq_false, Bool.false_eq_true, Bool.not_true, Bool.not_false, if_true, if_false, and_true, true_and, memE, celE, w64, Nat.zero_add, Nat.add_zero, Nat.mul_one, putL, and_self, ldn, c_spec_l2Row, r_spec_l2Row]
  refine loop_inv mixed (fun s => ∃ k : Nat, k ≤ l.length ∧ s.t 0 = v ∧ s.t 1 = .int .i64 n ∧ s.t 2 = .int .i64 most ∧ s.t 7 = .int .i64 k ∧ s.m = roM m ∧ allTo (inB most) l k) (fun s => l.length - (intOf (s.t 7)).toNat) ⟨0, by omega, rfl, rfl, rfl, rfl, rfl, fun j hj => absurd hj (by omega)⟩ ?_
  rintro s ⟨k, hk, t0, t1, t2, t7, tm, hall⟩
  by_cases hlt : k < l.length
  · have hlt' : (k : Int) < l.length := by omega
    simp (config := {implicitDefEqProofs := false, maxDischargeDepth := 20}) (disch := first | omega | (simp only [lenE]; done) | (simp only [lenE]; omega) | rfl | (simp only [lenE, markR_len]; done) | (simp only [lenE, markR_len]; omega)) only [runE, mapE, listE, initT_5, initT_6, initT_7, initT_8, resV, oneV, binA, unA, reduceCtorEq, Nat.reduceEqDiff, Nat.reduceAdd, Nat.reduceLT, Nat.reduceLeDiff, Nat.reduceMul, Nat.reduceSub, ↓reduceIte, decide_true, decide_false, Bool.true_eq_false, Bool.false_eq_true, Bool.not_true, Bool.not_false, if_true, if_false, and_true, true_and, memE, celE, w64, Nat.zero_add, Nat.add_zero, Nat.mul_one, putL, and_self, ldn, t0, t1, t2, t7, tm, e1, e3 k hlt, e4 k hlt, hlt']
    refine callH_rc (l1In_rc _ _ _ _) ?_
    rintro r new ⟨rfl, rfl⟩
    have hin : (decide (0 ≤ l.getD k 0) && decide (l.getD k 0 ≤ most)) = inB most (l.getD k 0) := rfl
    rw [hin]
    cases hb : inB most (l.getD k 0) with
    | true =>
      simp (config := {implicitDefEqProofs := false, maxDischargeDepth := 20}) (disch := first | omega | (simp only [lenE]; done) | (simp only [lenE]; omega) | rfl | (simp only [lenE, markR_len]; done) | (simp only [lenE, markR_len]; omega)) only [runE, mapE, listE, initT_5, initT_6, initT_7, initT_8, resV, oneV, binA, unA, reduceCtorEq, Nat.reduceEqDiff, Nat.reduceAdd, Nat.reduceLT, Nat.reduceLeDiff, Nat.reduceMul, Nat.reduceSub, ↓reduceIte, decide_true, decide_false, Bool.true_eq_false, Bool.false_eq_true, Bool.not_true, Bool.not_false, if_true, if_false, and_true, true_and, memE, celE, w64, Nat.zero_add, Nat.add_zero, Nat.mul_one, putL, and_self, ldn, t0, t1, t2, t7, tm]
      refine ⟨⟨k + 1, by omega, by simp, allTo_s hall hb⟩, ?_⟩
      simp [intOf]; omega
    | false =>
      simp (config := {implicitDefEqProofs := false, maxDischargeDepth := 20}) (disch := first | omega | (simp only [lenE]; done) | (simp only [lenE]; omega) | rfl | (simp only [lenE, markR_len]; done) | (simp only [lenE, markR_len]; omega)) only [runE, mapE, listE, initT_5, initT_6, initT_7, initT_8, resV, oneV, binA, unA, reduceCtorEq, Nat.reduceEqDiff, Nat.reduceAdd, Nat.reduceLT, Nat.reduceLeDiff, Nat.reduceMul, Nat.reduceSub, ↓reduceIte, decide_true, decide_false, Bool.true_eq_false, Bool.false_eq_true, Bool.not_true, Bool.not_false, if_true, if_false, and_true, true_and, memE, celE, w64, Nat.zero_add, Nat.add_zero, Nat.mul_one, putL, and_self, ldn, t0, t1, t2, t7, tm]
      exact newQ_nil ⟨by rw [allTo_no hlt hb]; simp, rfl⟩
  · have hlt' : ¬ ((k : Int) < l.length) := by omega
    have e : k = l.length := by omega
    simp (config := {implicitDefEqProofs := false, maxDischargeDepth := 20}) (disch := first | omega | (simp only [lenE]; done) | (simp only [lenE]; omega) | rfl | (simp only [lenE, markR_len]; done) | (simp only [lenE, markR_len]; omega)) only [runE, mapE, listE, initT_5, initT_6, initT_7, initT_8, resV, oneV, binA, unA, reduceCtorEq, Nat.reduceEqDiff, Nat.reduceAdd, Nat.reduceLT, Nat.reduceLeDiff, Nat.reduceMul, Nat.reduceSub, ↓reduceIte, decide_true, decide_false, Bool.true_eq_false, Bool.false_eq_true, Bool.not_true, Bool.not_false, if_true, if_false, and_true, true_and, memE, celE, w64, Nat.zero_add, Nat.add_zero, Nat.mul_one, putL, and_self, ldn, t0, t1, t2, t7, tm, e1, hlt']
    rw [e] at hall
    refine newQ_nil ⟨?_, rfl⟩
    rw [allTo_all hall]
    by_cases hq : l.length = n <;> simp [hq] <;> omega

def TestA (m : Mem) (fv : Value) (f : Int → Bool) : Prop :=
  ∃ g cap, fv = .func (.func g) #[] cap ∧ ∀ x m', (∀ id k v, rdc m id k = some v → rdc m' id k = some v) → RC Try.prog g (.int .i64 x :: cap.toList) m' fun r new => r = .bool (f x) ∧ new = []

theorem isWithin_rc (m : Mem) (x most : Int) : RC Try.prog 38 [.int .i64 x, .int .i64 most] m fun r new => r = .bool (inB most x) ∧ new = [] := by
  refine rc_of_run mixed ok_impl_isWithin (by simp) (go_start _ _ _ ?_)
  by_cases h1 : 0 ≤ x <;> by_cases h2 : x ≤ most
  all_goals
    simp (config := {implicitDefEqProofs := false, maxDischargeDepth := 20}) (disch := first | omega | (simp only [lenE]; done) | (simp only [lenE]; omega) | rfl | (simp only [lenE, markR_len]; done) | (simp only [lenE, markR_len]; omega)) only [runE, mapE, listE, initT_5, initT_6, initT_7, initT_8, resV, oneV, binA, unA, reduceCtorEq, Nat.reduceEqDiff, Nat.reduceAdd, Nat.reduceLT, Nat.reduceLeDiff, Nat.reduceMul, Nat.reduceSub, ↓reduceIte, decide_true, decide_false, Bool.true_eq_false, Bool.false_eq_true, Bool.not_true, Bool.not_false, if_true, if_false, and_true, true_and, memE, celE, w64, Nat.zero_add, Nat.add_zero, Nat.mul_one, putL, and_self, ldn, c_impl_isWithin, r_impl_isWithin, h1, h2, ge_iff_le]
    exact newQ_nil ⟨by simp [inB, h1, h2], rfl⟩

theorem isRow1_test (m : Mem) (id : Nat) (most : Int) (h : rdc m id 0 = some (.int .i64 most)) :
    TestA m (.func (.func 85) #[] #[.pointer (some ⟨id, 0, none⟩)]) (fun x => !inB most x) := by
  refine ⟨_, _, rfl, fun x m' hm => ?_⟩
  refine rc_of_run mixed ok_impl_isRow_1 (by simp) (go_start _ _ _ ?_)
  have h' : rdc (roM m') id 0 = some (.int .i64 most) := by rw [rdc_roM]; exact hm _ _ _ h
  simp (config := {implicitDefEqProofs := false, maxDischargeDepth := 20}) (disch := first | omega | (simp only [lenE]; done) | (simp only [lenE]; omega) | rfl | (simp only [lenE, markR_len]; done) | (simp only [lenE, markR_len]; omega)) only [runE, mapE, listE, initT_5, initT_6, initT_7, initT_8, resV, oneV, binA, unA, reduceCtorEq, Nat.reduceEqDiff, Nat.reduceAdd, Nat.reduceLT, Nat.reduceLeDiff, Nat.reduceMul, Nat.reduceSub, ↓reduceIte, decide_true, decide_false, Bool.true_eq_false, Bool.false_eq_true, Bool.not_true, Bool.not_false, if_true, if_false, and_true, true_and, memE, celE, w64, Nat.zero_add, Nat.add_zero, Nat.mul_one, putL, and_self, ldn, c_impl_isRow_1, r_impl_isRow_1, h']
  refine callH_rc (isWithin_rc _ x most) ?_
  rintro r new ⟨rfl, rfl⟩
  simp (config := {implicitDefEqProofs := false, maxDischargeDepth := 20}) (disch := first | omega | (simp only [lenE]; done) | (simp only [lenE]; omega) | rfl | (simp only [lenE, markR_len]; done) | (simp only [lenE, markR_len]; omega)) only [runE, mapE, listE, initT_5, initT_6, initT_7, initT_8, resV, oneV, binA, unA, reduceCtorEq, Nat.reduceEqDiff, Nat.reduceAdd, Nat.reduceLT, Nat.reduceLeDiff, Nat.reduceMul, Nat.reduceSub, ↓reduceIte, decide_true, decide_false, Bool.true_eq_false, Bool.false_eq_true, Bool.not_true, Bool.not_false, if_true, if_false, and_true, true_and, memE, celE, w64, Nat.zero_add, Nat.add_zero, Nat.mul_one, putL, and_self, ldn]
  exact newQ_nil ⟨rfl, rfl⟩

def firstAt (f : Int → Bool) : List Int → Nat → Int
  | [], _ => -1
  | x :: l, k => if f x then k else firstAt f l (k + 1)
theorem firstAt_step {f : Int → Bool} {l : List Int} {k : Nat} (h : k < l.length) : firstAt f (l.drop k) k = if f (l.getD k 0) then (k : Int) else firstAt f (l.drop (k + 1)) (k + 1) := by
  rw [List.drop_eq_getElem_cons h, firstAt, List.getD_eq_getElem?_getD, List.getElem?_eq_getElem h]; rfl
theorem firstAt_any (f : Int → Bool) (l : List Int) : ∀ k : Nat, decide (0 ≤ firstAt f l k) = l.any f ∧ -1 ≤ firstAt f l k ∧ firstAt f l k ≤ k + l.length := by
  induction l with
  | nil => intro k; simp [firstAt]
  | cons x l ih =>
    intro k
    obtain ⟨h1, h2, h3⟩ := ih (k + 1)
    rw [firstAt]
    cases hx : f x
    · simp [hx, h1]; omega
    · simp [hx]; omega

theorem indexFunc_rc (m : Mem) (v fv : Value) (l : List Int) (f : Int → Bool) (h : IntsA m v l) (hf : TestA m fv f) :
    RC Try.prog 75 [v, fv] m fun r new => r = .int .i64 (firstAt f l 0) ∧ new = [] := by
  refine rc_of_run mixed ok_slices_IndexFunc (by simp) (go_start _ _ _ ?_)
  obtain ⟨e1, e2, e3, e4, -⟩ := h.ro
  obtain ⟨g, cap, rfl, hg⟩ := hf
  simp (config := {implicitDefEqProofs := false, maxDischargeDepth := 20}) (disch := first | omega | (simp only [lenE]; done) | (simp only [lenE]; omega) | rfl | (simp only [lenE, markR_len]; done) | (simp only [lenE, markR_len]; omega)) only [runE, mapE, listE, initT_5, initT_6, initT_7, initT_8, resV, oneV, binA, unA, reduceCtorEq, Nat.reduceEqDiff, Nat.reduceAdd, Nat.reduceLT, Nat.reduceLeDiff, Nat.reduceMul, Nat.reduceSub, ↓reduceIte, decide_true, decide_false, Bool.true_eq_false, Bool.false_eq_true, Bool.not_true, Bool.not_false, if_true, if_false, and_true, true_and, memE, celE, w64, Nat.zero_add, Nat.add_zero, Nat.mul_one, putL, and_self, ldn, c_slices_IndexFunc, r_slices_IndexFunc, e1]
  refine loop_inv mixed (fun s => ∃ k : Nat, k ≤ l.length ∧ s.t 0 = v ∧ s.t 1 = .func (.func g) #[] cap ∧ s.t 7 = .int .i64 l.length ∧ s.t 8 = .int .i64 k ∧ s.m = roM m ∧ firstAt f l 0 = firstAt f (l.drop k) k) (fun s => l.length - (intOf (s.t 8)).toNat) ⟨0, by omega, rfl, rfl, rfl, rfl, rfl, rfl⟩ ?_
  rintro s ⟨k, hk, t0, t1, t7, t8, tm, hall⟩
  by_cases hlt : k < l.length
  · have hlt' : (k : Int) < l.length := by omega
    simp (config := {implicitDefEqProofs := false, maxDischargeDepth := 20}) (disch := first | omega | (simp only [lenE]; done) | (simp only [lenE]; omega) | rfl | (simp only [lenE, markR_len]; done) | (simp only [lenE, markR_len]; omega)) only [runE, mapE, listE, initT_5, initT_6, initT_7, initT_8, resV, oneV, binA, unA, reduceCtorEq, Nat.reduceEqDiff, Nat.reduceAdd, Nat.reduceLT, Nat.reduceLeDiff, Nat.reduceMul, Nat.reduceSub, ↓reduceIte, decide_true, decide_false, Bool.true_eq_false, Bool.false_eq_true, Bool.not_true, Bool.not_false, if_true, if_false, and_true, true_and, memE, celE, w64, Nat.zero_add, Nat.add_zero, Nat.mul_one, putL, and_self, ldn, t0, t1, t7, t8, tm, e1, e3 k hlt, e4 k hlt, hlt']
    refine callH_rc (hg _ _ fun id k v hv => by rw [rdc_roM]; exact hv) ?_
    rintro r new ⟨rfl, rfl⟩
    rw [firstAt_step hlt] at hall
    cases hb : f (l.getD k 0) with
    | true =>
      simp (config := {implicitDefEqProofs := false, maxDischargeDepth := 20}) (disch := first | omega | (simp only [lenE]; done) | (simp only [lenE]; omega) | rfl | (simp only [lenE, markR_len]; done) | (simp only [lenE, markR_len]; omega)) only [runE, mapE, listE, initT_5, initT_6, initT_7, initT_8, resV, oneV, binA, unA, reduceCtorEq, Nat.reduceEqDiff, Nat.reduceAdd, Nat.reduceLT, Nat.reduceLeDiff, Nat.reduceMul, Nat.reduceSub, ↓reduceIte, decide_true, decide_false, Bool.true_eq_false, Bool.false_eq_true, Bool.not_true, Bool.not_false, if_true, if_false, and_true, true_and, memE, celE, w64, Nat.zero_add, Nat.add_zero, Nat.mul_one, putL, and_self, ldn, t0, t1, t7, t8, tm]
      exact newQ_nil ⟨by rw [hall, hb]; rfl, rfl⟩
    | false =>
      simp (config := {implicitDefEqProofs := false, maxDischargeDepth := 20}) (disch := first | omega | (simp only [lenE]; done) | (simp only [lenE]; omega) | rfl | (simp only [lenE, markR_len]; done) | (simp only [lenE, markR_len]; omega)) only [runE, mapE, listE, initT_5, initT_6, initT_7, initT_8, resV, oneV, binA, unA, reduceCtorEq, Nat.reduceEqDiff, Nat.reduceAdd, Nat.reduceLT, Nat.reduceLeDiff, Nat.reduceMul, Nat.reduceSub, ↓reduceIte, decide_true, decide_false, Bool.true_eq_false, Bool.false_eq_true, Bool.not_true, Bool.not_false, if_true, if_false, and_true, true_and, memE, celE, w64, Nat.zero_add, Nat.add_zero, Nat.mul_one, putL, and_self, ldn, t0, t1, t7, t8, tm]
      rw [hb] at hall
      refine ⟨⟨k + 1, by omega, by simp, hall⟩, ?_⟩
      simp [intOf]; omega
  · have hlt' : ¬ ((k : Int) < l.length) := by omega
    simp (config := {implicitDefEqProofs := false, maxDischargeDepth := 20}) (disch := first | omega | (simp only [lenE]; done) | (simp only [lenE]; omega) | rfl | (simp only [lenE, markR_len]; done) | (simp only [lenE, markR_len]; omega)) only [runE, mapE, listE, initT_5, initT_6, initT_7, initT_8, resV, oneV, binA, unA, reduceCtorEq, Nat.reduceEqDiff, Nat.reduceAdd, Nat.reduceLT, Nat.reduceLeDiff, Nat.reduceMul, Nat.reduceSub, ↓reduceIte, decide_true, decide_false, Bool.true_eq_false, Bool.false_eq_true, Bool.not_true, Bool.not_false, if_true, if_false, and_true, true_and, memE, celE, w64, Nat.zero_add, Nat.add_zero, Nat.mul_one, putL, and_self, ldn, t0, t1, t7, t8, tm, e1, hlt']
    exact newQ_nil ⟨by rw [hall, List.drop_eq_nil_of_le (by omega)]; rfl, rfl⟩

theorem containsFunc_rc (m : Mem) (v fv : Value) (l : List Int) (f : Int → Bool) (h : IntsA m v l) (hf : TestA m fv f) :
    RC Try.prog 66 [v, fv] m fun r new => r = .bool (l.any f) ∧ new = [] := by
  refine rc_of_run mixed ok_slices_ContainsFunc (by simp) (go_start _ _ _ ?_)
  have hf' : TestA (roM m) fv f := by
    obtain ⟨g, cap, rfl, hg⟩ := hf
    exact ⟨g, cap, rfl, fun x m' hm => hg x m' fun id k v hv => hm id k v (by rw [rdc_roM]; exact hv)⟩
  simp (config := {implicitDefEqProofs := false, maxDischargeDepth := 20}) (disch := first | omega | (simp only [lenE]; done) | (simp only [lenE]; omega) | rfl | (simp only [lenE, markR_len]; done) | (simp only [lenE, markR_len]; omega)) only [runE, mapE, listE, initT_5, initT_6, initT_7, initT_8, resV, oneV, binA, unA, reduceCtorEq, Nat.reduceEqDiff, Nat.reduceAdd, Nat.reduceLT, Nat.reduceLeDiff, Nat.reduceMul, Nat.reduceSub, ↓reduceIte, decide_true, decide_false, Bool.true_eq_false, Bool.false_eq_true, Bool.not_true, Bool.not_false, if_true, if_false, and_true, true_and, memE, celE, w64, Nat.zero_add, Nat.add_zero, Nat.mul_one, putL, and_self, ldn, c_slices_ContainsFunc, r_slices_ContainsFunc]
  refine callH_rc (indexFunc_rc _ v fv l f h.ro hf') ?_
  rintro r new ⟨rfl, rfl⟩
  simp (config := {implicitDefEqProofs := false, maxDischargeDepth := 20}) (disch := first | omega | (simp only [lenE]; done) | (simp only [lenE]; omega) | rfl | (simp only [lenE, markR_len]; done) | (simp only [lenE, markR_len]; omega)) only [runE, mapE, listE, initT_5, initT_6, initT_7, initT_8, resV, oneV, binA, unA, reduceCtorEq, Nat.reduceEqDiff, Nat.reduceAdd, Nat.reduceLT, Nat.reduceLeDiff, Nat.reduceMul, Nat.reduceSub, ↓reduceIte, decide_true, decide_false, Bool.true_eq_false, Bool.false_eq_true, Bool.not_true, Bool.not_false, if_true, if_false, and_true, true_and, memE, celE, w64, Nat.zero_add, Nat.add_zero, Nat.mul_one, putL, and_self, ldn, ge_iff_le]
  exact newQ_nil ⟨by rw [(firstAt_any f l 0).1], rfl⟩

theorem isRow_rc (m : Mem) (v : Value) (l : List Int) (n : Nat) (most : Int) (h : IntsA m v l) :
    RC Try.prog 82 [v, .int .i64 n, .int .i64 most] m (AnsV (.bool (Go.Proofs.Ytckpfgkgigicpaa.rowB l n most))) := by
  refine rc_of_run mixed ok_impl_isRow (by simp) (go_start _ _ _ ?_)
  have hr := h.ro
  rw [rowB_all]
  by_cases hn : l.length = n
  · have hn' : ((l.length : Int) == n) = true := by simp; omega
    simp (config := {implicitDefEqProofs := false, maxDischargeDepth := 20}) (disch := first | omega | (simp only [lenE]; done) | (simp only [lenE]; omega) | rfl | (simp only [lenE, markR_len]; done) | (simp only [lenE, markR_len]; omega)) only [runE, mapE, listE, initT_5, initT_6, initT_7, initT_8, resV, oneV, binA, unA, reduceCtorEq, Nat.reduceEqDiff, Nat.reduceAdd, Nat.reduceLT, Nat.reduceLeDiff, Nat.reduceMul, Nat.reduceSub, ↓reduceIte, decide_true, decide_false, Bool.true_eq_false, Bool.false_eq_true, Bool.not_true, Bool.not_false, if_true, if_false, and_true, true_and, memE, celE, w64, Nat.zero_add, Nat.add_zero, Nat.mul_one, putL, and_self, ldn, c_impl_isRow, r_impl_isRow, hr.len, hn', eq_self]
    have hp : rdc (roM m ++ [⟨.own, 3, [.int .i64 most]⟩]) m.length 0 = some (.int .i64 most) := by simp (config := {implicitDefEqProofs := false, maxDischargeDepth := 20}) (disch := first | omega | (simp only [lenE]; done) | (simp only [lenE]; omega) | rfl | (simp only [lenE, markR_len]; done) | (simp only [lenE, markR_len]; omega)) only [runE, mapE, listE, initT_5, initT_6, initT_7, initT_8, resV, oneV, binA, unA, reduceCtorEq, Nat.reduceEqDiff, Nat.reduceAdd, Nat.reduceLT, Nat.reduceLeDiff, Nat.reduceMul, Nat.reduceSub, ↓reduceIte, decide_true, decide_false, Bool.true_eq_false, Bool.false_eq_true, Bool.not_true, Bool.not_false, if_true, if_false, and_true, true_and, memE, celE, w64, Nat.zero_add, Nat.add_zero, Nat.mul_one, putL, and_self, ldn]
    refine callH_rc (containsFunc_rc _ v _ l (fun x => !inB most x) (hr.ext _) (isRow1_test _ _ most hp)) ?_
    rintro r new ⟨rfl, rfl⟩
    simp (config := {implicitDefEqProofs := false, maxDischargeDepth := 20}) (disch := first | omega | (simp only [lenE]; done) | (simp only [lenE]; omega) | rfl | (simp only [lenE, markR_len]; done) | (simp only [lenE, markR_len]; omega)) only [runE, mapE, listE, initT_5, initT_6, initT_7, initT_8, resV, oneV, binA, unA, reduceCtorEq, Nat.reduceEqDiff, Nat.reduceAdd, Nat.reduceLT, Nat.reduceLeDiff, Nat.reduceMul, Nat.reduceSub, ↓reduceIte, decide_true, decide_false, Bool.true_eq_false, Bool.false_eq_true, Bool.not_true, Bool.not_false, if_true, if_false, and_true, true_and, memE, celE, w64, Nat.zero_add, Nat.add_zero, Nat.mul_one, putL, and_self, ldn]
    exact ⟨_, rfl, by (repeat (first | exact noRo_nil | assumption | apply noRo_own | apply noRo_dead | apply noRo_app)), by simp [hn, List.any_eq_not_all_not], by (repeat (first | exact noRo_nil | assumption | apply noRo_own | apply noRo_dead | apply noRo_app))⟩
  · have hn' : ((l.length : Int) == n) = false := by simp; omega
    simp (config := {implicitDefEqProofs := false, maxDischargeDepth := 20}) (disch := first | omega | (simp only [lenE]; done) | (simp only [lenE]; omega) | rfl | (simp only [lenE, markR_len]; done) | (simp only [lenE, markR_len]; omega)) only [runE, mapE, listE, initT_5, initT_6, initT_7, initT_8, resV, oneV, binA, unA, reduceCtorEq, Nat.reduceEqDiff, Nat.reduceAdd, Nat.reduceLT, Nat.reduceLeDiff, Nat.reduceMul, Nat.reduceSub, ↓reduceIte, decide_true, decide_false, Bool.true_eq_false, Bool.false_eq_true, Bool.not_true, Bool.not_false, if_true, if_false, and_true, true_and, memE, celE, w64, Nat.zero_add, Nat.add_zero, Nat.mul_one, putL, and_self, ldn, c_impl_isRow, r_impl_isRow, hr.len, hn']
    exact ⟨_, rfl, by (repeat (first | exact noRo_nil | assumption | apply noRo_own | apply noRo_dead | apply noRo_app)), by simp [hn], by (repeat (first | exact noRo_nil | assumption | apply noRo_own | apply noRo_dead | apply noRo_app))⟩

end Go.Proofs.Ytckpfgkgigicpaa.Ab
end
section
namespace Go.Proofs.Ytckpfgkgigicpaa.Ab
open Go Go.RowKit
set_option linter.unusedVariables false
set_option linter.unusedSimpArgs false
theorem bsl_none {m : Mem} : bslA m 3 1 0 [] [] = some (.slice (some ⟨m.length, 0, none⟩) 0 1, m ++ [⟨.own, 3, ([] : List Int).map (Value.int .i64)⟩]) := rfl
theorem bsl_one {m : Mem} {y : Int} : bslA m 3 1 1 [.int .i64 0] [(0, 1, .int .i64 y)] = some (.slice (some ⟨m.length, 0, none⟩) 1 1, m ++ [⟨.own, 3, [.int .i64 y]⟩]) := rfl

def AnsR (m : Mem) (l : List Int) (r : Value) (new : Mem) : Prop :=
  NoRo new ∧ l.length ≤ 1048576 ∧ ∃ i fl, r = .slice (some ⟨m.length + i, 0, none⟩) l.length fl ∧ new[i]? = some (rowB l)
theorem AnsR.row {m new : Mem} {l : List Int} {r : Value} (h : AnsR m l r new) : ∃ id fl, r = .slice (some ⟨id, 0, none⟩) l.length fl ∧ m.length ≤ id ∧ OwnR (m ++ new) id l ∧ l.length ≤ 1048576 ∧ NoRo new := by
  obtain ⟨h1, h2, i, fl, rfl, h3⟩ := h
  exact ⟨_, fl, rfl, by omega, OwnR.new h3 rfl, h2, h1⟩
theorem sumTo_s {l : List Int} {k : Nat} (h : k < l.length) : sumTo l (k + 1) = sumTo l k + l.getD k 0 := by
  rw [sumTo_succ (List.getElem?_eq_getElem h), List.getD_eq_getElem?_getD, List.getElem?_eq_getElem h]; rfl
theorem l2Sum_rc (m : Mem) (v : Value) (l : List Int) (h : IntsA m v l) (hb : ∀ k : Nat, k ≤ l.length → -4611686018427387904 ≤ sumTo l k ∧ sumTo l k ≤ 4611686018427387904) :
    RC Try.prog 49 [v] m fun r new => r = .int .i64 (sumTo l l.length) ∧ new = [] := by
  refine rc_of_run mixed ok_spec_l2Sum (by simp) (go_start _ _ _ ?_)
  obtain ⟨e1, e2, e3, e4, -⟩ := h.ro
  simp (config := {implicitDefEqProofs := false, maxDischargeDepth := 20}) (disch := first | omega | (simp only [lenE]; done) | (simp only [lenE]; omega) | rfl | (simp only [lenE, markR_len]; done) | (simp only [lenE, markR_len]; omega)) only [runE, mapE, listE, initT_5, initT_6, initT_7, initT_8, resV, oneV, binA, unA, reduceCtorEq, Nat.reduceEqDiff, Nat.reduceAdd, Nat.reduceLT, Nat.reduceLeDiff, Nat.reduceMul, Nat.reduceSub, ↓reduceIte, decide_true, decide_false, Bool.true_eq_false, Bool.false_eq_true, Bool.not_true, Bool.not_false, if_true, if_false, and_true, true_and, memE, celE, w64, Nat.zero_add, Nat.add_zero, Nat.mul_one, putL, and_self, ldn, c_spec_l2Sum, r_spec_l2Sum]
  refine loop_inv mixed (fun s => ∃ k : Nat, k ≤ l.length ∧ s.t 0 = v ∧ s.t 3 = .int .i64 (sumTo l k) ∧ s.t 4 = .int .i64 k ∧ s.m = roM m) (fun s => l.length - (intOf (s.t 4)).toNat) ⟨0, by omega, rfl, rfl, rfl, rfl⟩ ?_
  rintro s ⟨k, hk, t0, t3, t4, tm⟩
  by_cases hlt : k < l.length
  · have hlt' : (k : Int) < l.length := by omega
    have b1 := hb (k + 1) (by omega)
    have b2 := sumTo_s hlt
    rw [b2] at b1
    simp (config := {implicitDefEqProofs := false, maxDischargeDepth := 20}) (disch := first | omega | (simp only [lenE]; done) | (simp only [lenE]; omega) | rfl | (simp only [lenE, markR_len]; done) | (simp only [lenE, markR_len]; omega)) only [runE, mapE, listE, initT_5, initT_6, initT_7, initT_8, resV, oneV, binA, unA, reduceCtorEq, Nat.reduceEqDiff, Nat.reduceAdd, Nat.reduceLT, Nat.reduceLeDiff, Nat.reduceMul, Nat.reduceSub, ↓reduceIte, decide_true, decide_false, Bool.true_eq_false, Bool.false_eq_true, Bool.not_true, Bool.not_false, if_true, if_false, and_true, true_and, memE, celE, w64, Nat.zero_add, Nat.add_zero, Nat.mul_one, putL, and_self, ldn, t0, t3, t4, tm, e1, e3 k hlt, e4 k hlt, hlt']
    refine ⟨⟨k + 1, by omega, by simp [b2]⟩, ?_⟩
    simp [intOf]; omega
  · have hlt' : ¬ ((k : Int) < l.length) := by omega
    have e : k = l.length := by omega
    simp (config := {implicitDefEqProofs := false, maxDischargeDepth := 20}) (disch := first | omega | (simp only [lenE]; done) | (simp only [lenE]; omega) | rfl | (simp only [lenE, markR_len]; done) | (simp only [lenE, markR_len]; omega)) only [runE, mapE, listE, initT_5, initT_6, initT_7, initT_8, resV, oneV, binA, unA, reduceCtorEq, Nat.reduceEqDiff, Nat.reduceAdd, Nat.reduceLT, Nat.reduceLeDiff, Nat.reduceMul, Nat.reduceSub, ↓reduceIte, decide_true, decide_false, Bool.true_eq_false, Bool.false_eq_true, Bool.not_true, Bool.not_false, if_true, if_false, and_true, true_and, memE, celE, w64, Nat.zero_add, Nat.add_zero, Nat.mul_one, putL, and_self, ldn, t0, t3, t4, tm, e1, hlt']
    exact newQ_nil ⟨by rw [e], rfl⟩

theorem sumOf_rc (m : Mem) (v : Value) (l : List Int) (h : IntsA m v l) (hb : ∀ k : Nat, k ≤ l.length → -4611686018427387904 ≤ sumTo l k ∧ sumTo l k ≤ 4611686018427387904) :
    RC Try.prog 80 [v] m fun r new => r = .int .i64 (sumTo l l.length) ∧ new = [] := by
  refine rc_of_run mixed ok_impl_sumOf (by simp) (go_start _ _ _ ?_)
  obtain ⟨e1, e2, e3, e4, -⟩ := h.ro
  simp (config := {implicitDefEqProofs := false, maxDischargeDepth := 20}) (disch := first | omega | (simp only [lenE]; done) | (simp only [lenE]; omega) | rfl | (simp only [lenE, markR_len]; done) | (simp only [lenE, markR_len]; omega)) only [runE, mapE, listE, initT_5, initT_6, initT_7, initT_8, resV, oneV, binA, unA, reduceCtorEq, Nat.reduceEqDiff, Nat.reduceAdd, Nat.reduceLT, Nat.reduceLeDiff, Nat.reduceMul, Nat.reduceSub, ↓reduceIte, decide_true, decide_false, Bool.true_eq_false, Bool.false_eq_true, Bool.not_true, Bool.not_false, if_true, if_false, and_true, true_and, memE, celE, w64, Nat.zero_add, Nat.add_zero, Nat.mul_one, putL, and_self, ldn, c_impl_sumOf, r_impl_sumOf, e1]
  refine loop_inv mixed (fun s => ∃ k : Nat, k ≤ l.length ∧ s.t 6 = v ∧ s.t 7 = .int .i64 l.length ∧ s.t 3 = .int .i64 (sumTo l k) ∧ s.t 8 = .int .i64 k ∧ s.m = roM m) (fun s => l.length - (intOf (s.t 8)).toNat) ⟨0, by omega, rfl, rfl, rfl, rfl, rfl⟩ ?_
  rintro s ⟨k, hk, t6, t7, t3, t8, tm⟩
  by_cases hlt : k < l.length
  · have hlt' : (k : Int) < l.length := by omega
    have b1 := hb (k + 1) (by omega)
    have b2 := sumTo_s hlt
    rw [b2] at b1
    simp (config := {implicitDefEqProofs := false, maxDischargeDepth := 20}) (disch := first | omega | (simp only [lenE]; done) | (simp only [lenE]; omega) | rfl | (simp only [lenE, markR_len]; done) | (simp only [lenE, markR_len]; omega)) only [runE, mapE, listE, initT_5, initT_6, initT_7, initT_8, resV, oneV, binA, unA, reduceCtorEq, Nat.reduceEqDiff, Nat.reduceAdd, Nat.reduceLT, Nat.reduceLeDiff, Nat.reduceMul, Nat.reduceSub, ↓reduceIte, decide_true, decide_false, Bool.true_eq_false, Bool.false_eq_true, Bool.not_true, Bool.not_false, if_true, if_false, and_true, true_and, memE, celE, w64, Nat.zero_add, Nat.add_zero, Nat.mul_one, putL, and_self, ldn, t6, t7, t3, t8, tm, e1, e3 k hlt, e4 k hlt, hlt']
    refine ⟨⟨k + 1, by omega, by simp [b2]⟩, ?_⟩
    simp [intOf]; omega
  · have hlt' : ¬ ((k : Int) < l.length) := by omega
    have e : k = l.length := by omega
    simp (config := {implicitDefEqProofs := false, maxDischargeDepth := 20}) (disch := first | omega | (simp only [lenE]; done) | (simp only [lenE]; omega) | rfl | (simp only [lenE, markR_len]; done) | (simp only [lenE, markR_len]; omega)) only [runE, mapE, listE, initT_5, initT_6, initT_7, initT_8, resV, oneV, binA, unA, reduceCtorEq, Nat.reduceEqDiff, Nat.reduceAdd, Nat.reduceLT, Nat.reduceLeDiff, Nat.reduceMul, Nat.reduceSub, ↓reduceIte, decide_true, decide_false, Bool.true_eq_false, Bool.false_eq_true, Bool.not_true, Bool.not_false, if_true, if_false, and_true, true_and, memE, celE, w64, Nat.zero_add, Nat.add_zero, Nat.mul_one, putL, and_self, ldn, t6, t7, t3, t8, tm, e1, hlt']
    exact newQ_nil ⟨by rw [e], rfl⟩

theorem AnsL.row0 {m new : Mem} {l : List Int} {ok : Bool} {r : Value} (h : AnsL m l ok r new) : ∃ id fl, r = .tuple #[.slice (some ⟨id, 0, none⟩) l.length fl, .bool ok] ∧ m.length ≤ id ∧ OwnR (m ++ new) id l ∧ l.length ≤ 1048576 ∧ NoRo new := by
  obtain ⟨h1, h2, i, fl, rfl, h3⟩ := h
  exact ⟨_, fl, rfl, by omega, OwnR.new h3 rfl, h2, h1⟩
theorem AnsL.pass {m A new : Mem} {l : List Int} {ok : Bool} {r : Value} (hA : NoRo A) (h : AnsL (roM m ++ A) l ok r new) : newQ m (AnsL m l ok) r (roM m ++ A ++ new) := by
  obtain ⟨h1, h2, i, fl, rfl, h3⟩ := h
  refine ⟨A ++ new, by rw [List.append_assoc], noRo_app hA h1, noRo_app hA h1, h2, A.length + i, fl, by simp [roM_len, Nat.add_assoc], ?_⟩
  rw [List.getElem?_append_right (by omega)]; simpa using h3
end Go.Proofs.Ytckpfgkgigicpaa.Ab
end
section
namespace Go.Proofs.Ytckpfgkgigicpaa.Ab
open Go Go.RowKit
set_option linter.unusedVariables false
set_option linter.unusedSimpArgs false
def BoxA (m : Mem) (id : Nat) (vs : List Value) : Prop := ∃ e, m[id]? = some ⟨.own, e, vs⟩
theorem BoxA.lt {m : Mem} {id : Nat} {vs : List Value} (h : BoxA m id vs) : id < m.length := by
  obtain ⟨_, h⟩ := h
  exact (List.getElem?_eq_some_iff.1 h).1
theorem BoxA.ext {m : Mem} {id : Nat} {vs : List Value} (h : BoxA m id vs) (new : Mem) : BoxA (m ++ new) id vs := by
  have hl := h.lt
  obtain ⟨e, h⟩ := h
  exact ⟨e, by rw [List.getElem?_append_left hl]; exact h⟩
theorem BoxA.here (m : Mem) (e : TypeId) (vs : List Value) {id : Nat} (h : id = m.length) : BoxA (m ++ [⟨.own, e, vs⟩]) id vs := ⟨e, by rw [h]; simp⟩
theorem ext_2_0 (a b : Value) : extA 0 (.tuple #[a, b]) = some a := rfl
theorem ext_2_1 (a b : Value) : extA 1 (.tuple #[a, b]) = some b := rfl
theorem ext_3_0 (a b c : Value) : extA 0 (.tuple #[a, b, c]) = some a := rfl
theorem ext_3_1 (a b c : Value) : extA 1 (.tuple #[a, b, c]) = some b := rfl
theorem ext_3_2 (a b c : Value) : extA 2 (.tuple #[a, b, c]) = some c := rfl
end Go.Proofs.Ytckpfgkgigicpaa.Ab
end
section
namespace Go.Proofs.Ytckpfgkgigicpaa.Ab
open Go Go.RowKit
set_option linter.unusedVariables false
set_option linter.unusedSimpArgs false
def Ext (m M : Mem) : Prop := ∃ new, M = roM m ++ new ∧ NoRo new
theorem Ext.refl (m : Mem) : Ext m (roM m) := ⟨[], by simp, noRo_nil⟩
theorem Ext.app {m M new : Mem} (h : Ext m M) (hn : NoRo new) : Ext m (M ++ new) := by
  obtain ⟨n0, rfl, h0⟩ := h
  exact ⟨n0 ++ new, by rw [List.append_assoc], noRo_app h0 hn⟩
theorem Ext.one {m M : Mem} (h : Ext m M) (e : TypeId) (cs : List Value) : Ext m (M ++ [⟨.own, e, cs⟩]) := h.app (noRo_own noRo_nil)
theorem Ext.len {m M : Mem} (h : Ext m M) : m.length ≤ M.length := by
  obtain ⟨n0, rfl, h0⟩ := h
  simp [roM_len]
theorem Ext.ints {m M : Mem} (h : Ext m M) {v : Value} {l : List Int} (hi : IntsA (roM m) v l) : IntsA M v l := by
  obtain ⟨n0, rfl, h0⟩ := h
  exact hi.ext _
theorem noRo_set {l : Mem} {i : Nat} (h : NoRo l) : NoRo (l.set i deadB) := fun b hb => by
  rcases List.mem_or_eq_of_mem_set hb with h1 | h1
  · exact h b h1
  · rw [h1]; simp [deadB]
theorem Ext.dead {m M : Mem} (h : Ext m M) {id : Nat} (hid : m.length ≤ id) : Ext m (M.set id deadB) := by
  obtain ⟨n0, rfl, h0⟩ := h
  exact ⟨n0.set (id - m.length) deadB, by rw [List.set_append_right _ _ (by rw [roM_len]; exact hid), roM_len], noRo_set h0⟩
theorem OwnR.dead {m : Mem} {id id' : Nat} {l : List Int} (h : OwnR m id' l) (hne : id ≠ id') : OwnR (m.set id deadB) id' l := by
  unfold OwnR; rw [List.getElem?_set_ne hne]; exact h
theorem OwnR.at_end (m : Mem) (l : List Int) : OwnR (m ++ [⟨.own, 3, l.map (Value.int .i64)⟩]) m.length l := by unfold OwnR; simp
theorem app_gen {M : Mem} {l : List Int} {x : Int} {id : Nat} (h : OwnR M id l) (hb : l.length ≤ 1048576) :
    appP (M ++ [⟨.own, 3, [.int .i64 x]⟩]) 3 1 8 (.slice (some ⟨id, 0, none⟩) l.length 1) (.slice (some ⟨M.length, 0, none⟩) 1 1) =
      some (.slice (some ⟨M.length + 1, 0, none⟩) (l.length + 1) 1, M.set id deadB ++ [⟨.own, 3, [.int .i64 x]⟩] ++ [⟨.own, 3, (l ++ [x]).map (Value.int .i64)⟩]) := by
  have hl := h.lt
  have e1 : slR (M ++ [⟨.own, 3, [.int .i64 x]⟩]) 1 (.slice (some ⟨M.length, 0, none⟩) 1 1) = some [.int .i64 x] := by
    simp only [slR, rdl, Nat.mul_one]
    simp
  unfold appP
  rw [e1]
  simp only [onesB_int, onesB_nil, if_true, appA, lenOfA]
  rw [List.getElem?_append_left hl, show M[id]? = some (rowB l) from h]
  simp only [List.length_map, Nat.mul_one, true_and]
  rw [if_pos (by omega), List.set_append_left _ _ hl]
  simp
theorem AnsL.row {m new : Mem} {l : List Int} {ok : Bool} {r : Value} (h : AnsL m l ok r new) : ∃ id fl, r = .tuple #[.slice (some ⟨id, 0, none⟩) l.length fl, .bool ok] ∧ m.length ≤ id ∧ OwnR (m ++ new) id l ∧ l.length ≤ 1048576 ∧ NoRo new := by
  obtain ⟨h1, h2, i, fl, rfl, h3⟩ := h
  exact ⟨_, fl, rfl, by omega, OwnR.new h3 rfl, h2, h1⟩

end Go.Proofs.Ytckpfgkgigicpaa.Ab
end
section
namespace Go.Proofs.Ytckpfgkgigicpaa.Ab
open Go Go.RowKit
set_option linter.unusedVariables false
set_option linter.unusedSimpArgs false
theorem goG_undef {P : Program} {n : Nat} (s : St) (k : Kont) (d : Option Nat) (rs : List ARow) (w : Bool) (x : AOp) : goG P n undef w d x rs k s = goR P n rs k (s.putT d undef) := rfl
def Grow (M0 M : Mem) : Prop := ∃ R, M = M0 ++ R ∧ NoRo R
theorem Grow.refl (M : Mem) : Grow M M := ⟨[], by simp, noRo_nil⟩
theorem Grow.app {M0 M new : Mem} (h : Grow M0 M) (hn : NoRo new) : Grow M0 (M ++ new) := by
  obtain ⟨R, rfl, h0⟩ := h
  exact ⟨R ++ new, by rw [List.append_assoc], noRo_app h0 hn⟩
theorem Grow.one {M0 M : Mem} (h : Grow M0 M) (e : TypeId) (cs : List Value) : Grow M0 (M ++ [⟨.own, e, cs⟩]) := h.app (noRo_own noRo_nil)
theorem Grow.len {M0 M : Mem} (h : Grow M0 M) : M0.length ≤ M.length := by
  obtain ⟨R, rfl, h0⟩ := h
  simp
theorem Grow.trans {A B C : Mem} (h : Grow A B) (h' : Grow B C) : Grow A C := by
  obtain ⟨R, rfl, h0⟩ := h
  obtain ⟨S, rfl, h1⟩ := h'
  exact ⟨R ++ S, by rw [List.append_assoc], noRo_app h0 h1⟩
theorem noRo_setO {l : Mem} {i : Nat} {e : TypeId} {cs : List Value} (h : NoRo l) : NoRo (l.set i ⟨.own, e, cs⟩) := fun b hb => by
  rcases List.mem_or_eq_of_mem_set hb with h1 | h1
  · exact h b h1
  · rw [h1]; simp
theorem Grow.dead {M0 M : Mem} (h : Grow M0 M) {id : Nat} (hid : M0.length ≤ id) : Grow M0 (M.set id deadB) := by
  obtain ⟨R, rfl, h0⟩ := h
  exact ⟨R.set (id - M0.length) deadB, by rw [List.set_append_right _ _ hid], noRo_set h0⟩
theorem Grow.put {M0 M : Mem} (h : Grow M0 M) {id : Nat} (hid : M0.length ≤ id) (e : TypeId) (cs : List Value) : Grow M0 (M.set id ⟨.own, e, cs⟩) := by
  obtain ⟨R, rfl, h0⟩ := h
  exact ⟨R.set (id - M0.length) ⟨.own, e, cs⟩, by rw [List.set_append_right _ _ hid], noRo_setO h0⟩
theorem Grow.rd {M0 M : Mem} (h : Grow M0 M) {id k : Nat} {v : Value} (hv : rdc M0 id k = some v) : rdc M id k = some v := by
  obtain ⟨R, rfl, h0⟩ := h
  exact rdc_ext hv
theorem Grow.ints {M0 M : Mem} (h : Grow M0 M) {v : Value} {l : List Int} (hi : IntsA M0 v l) : IntsA M v l := by
  obtain ⟨R, rfl, h0⟩ := h
  exact hi.ext R
theorem Grow.own {M0 M : Mem} (h : Grow M0 M) {id : Nat} {l : List Int} (hi : OwnR M0 id l) : OwnR M id l := by
  obtain ⟨R, rfl, h0⟩ := h
  exact hi.ext R
theorem iadA_at {id off n fl sz : Nat} {k : IntKind} {z : Int} {j : Nat} (h : z = j) (hj : j < n) : iadA sz (.slice (some ⟨id, off, none⟩) n fl) (.int k z) = some (.pointer (some ⟨id, off + j * sz, none⟩)) := by
  subst h; exact iadA_in hj
theorem iad0 {id n fl : Nat} {z : Int} {j : Nat} (h : z = j) (hj : j < n) : iadA 1 (.slice (some ⟨id, 0, none⟩) n fl) (.int .i64 z) = some (.pointer (some ⟨id, j, none⟩)) := by
  have := iadA_at (id := id) (off := 0) (fl := fl) (sz := 1) (k := .i64) h hj
  simpa using this
theorem OwnR.rd' {M : Mem} {id : Nat} {L : List Int} (h : OwnR M id L) {i : Nat} (hi : i < L.length) : rdc M id i = some (.int .i64 (L.getD i 0)) := by
  unfold rdc
  rw [show M[id]? = some (rowB L) from h]
  simp [List.getElem?_map, List.getElem?_eq_getElem hi, List.getD_eq_getElem?_getD]
theorem Ext.put {m M : Mem} (h : Ext m M) {id : Nat} (hid : m.length ≤ id) (e : TypeId) (cs : List Value) : Ext m (M.set id ⟨.own, e, cs⟩) := by
  obtain ⟨new, rfl, hn⟩ := h
  exact ⟨new.set (id - m.length) ⟨.own, e, cs⟩, by rw [List.set_append_right _ _ (by rw [roM_len]; exact hid), roM_len], noRo_setO hn⟩
theorem OwnR.st {M : Mem} {id off : Nat} {L : List Int} {x : Int} (h : OwnR M id L) (ho : off < L.length) : stA M id off [.int .i64 x] = some (M.set id (rowB (L.set off x))) := by
  rw [stA_at (show M[id]? = some ⟨.own, 3, L.map (Value.int .i64)⟩ from h) (by simpa using ho) rfl]
  unfold rowB
  rw [List.map_set]
theorem OwnR.set_self {M : Mem} {id : Nat} {L L' : List Int} (h : OwnR M id L) : OwnR (M.set id (rowB L')) id L' := by
  unfold OwnR; rw [List.getElem?_set_self h.lt]
theorem OwnR.set_ne {M : Mem} {id id' : Nat} {L : List Int} {b : Blk} (h : OwnR M id' L) (hne : id ≠ id') : OwnR (M.set id b) id' L := by
  unfold OwnR; rw [List.getElem?_set_ne hne]; exact h
theorem mksA_eq {m : Mem} {e byt n : Nat} {z : Value} {a : Int} (ha : a = n) (h : n * byt ≤ 140737488355328 ∧ n ≤ 140737488355328) :
    mksA m e byt [z] (.int .i64 a) (.int .i64 a) = some (.slice (some ⟨m.length, 0, none⟩) n 1, m ++ [⟨.own, e, List.replicate n z⟩]) := by
  subst ha
  exact mksA_nat m e byt n z (by omega)
theorem OwnR.zeros {m : Mem} {n id : Nat} (h : id = m.length) : OwnR (m ++ [⟨.own, 3, List.replicate n (.int .i64 0)⟩]) id (List.replicate n 0) := by
  unfold OwnR rowB; rw [h]; simp
def cutL (l : List Int) (lo hi : Nat) : List Int := (l.take hi).drop lo
theorem cutL_len {l : List Int} {lo hi : Nat} (h : hi ≤ l.length) : (cutL l lo hi).length = hi - lo := by
  unfold cutL; rw [List.length_drop, List.length_take, Nat.min_eq_left h]
theorem cutL_at {l : List Int} {lo hi k : Nat} (hk : lo + k < hi) : (cutL l lo hi).getD k 0 = l.getD (lo + k) 0 := by
  unfold cutL
  rw [List.getD_eq_getElem?_getD, List.getD_eq_getElem?_getD, List.getElem?_drop, List.getElem?_take, if_pos hk]
theorem IntsA.lenOf {m : Mem} {v : Value} {l : List Int} (h : IntsA m v l) : lenOfA v = l.length := by
  have := h.len
  unfold lenA at this
  split at this
  · simp only [Option.some.injEq, Value.int.injEq, true_and] at this
    simp only [lenOfA]; omega
  · cases this
theorem IntsA.form {m : Mem} {v : Value} {l : List Int} (h : IntsA m v l) : (v = .slice none 0 0 ∧ l = []) ∨ ∃ id off fl, v = .slice (some ⟨id, off, none⟩) l.length fl := by
  have h1 := h.src
  have h2 := h.lenOf
  unfold slR at h1
  split at h1
  · exact .inl ⟨rfl, by simpa [lenOfA] using h2.symm⟩
  · simp only [lenOfA] at h2
    subst h2
    exact .inr ⟨_, _, _, rfl⟩
  · cases h1
theorem IntsA.cut {m : Mem} {v : Value} {l : List Int} (h : IntsA m v l) {lo hi : Nat} (h1 : lo ≤ hi) (h2 : hi ≤ l.length) :
    ∃ v', slcA 1 v (some (.int .i64 lo)) (some (.int .i64 hi)) = some v' ∧ IntsA m v' (cutL l lo hi) := by
  rcases h.form with ⟨rfl, rfl⟩ | ⟨id, off, fl, rfl⟩
  · have e1 : hi = 0 := by simpa using h2
    have e2 : lo = 0 := by omega
    subst e1 e2
    exact ⟨.slice none 0 0, rfl, IntsA.nil m⟩
  · refine ⟨.slice (some ⟨id, off + lo, none⟩) (hi - lo) 0, ?_, ?_⟩
    · simp [slcA, boundA, h1, h2]
    · have hb := h.bd
      rw [← cutL_len h2]
      refine IntsA.of_block (by rw [cutL_len h2]; omega) (fun k hk => ?_) ?_
      · rw [cutL_len h2] at hk
        rw [cutL_at (by omega)]
        have := h.ld (lo + k) (by omega)
        simp only [pAt, ldA] at this
        rw [Nat.add_assoc]; exact this
      · have hs := h.src
        simp only [slR, Nat.mul_one, rdl] at hs ⊢
        split at hs
        · rename_i b hb
          rw [cutL_len h2]
          split at hs
          · cases hs
          · split at hs
            · rename_i hd hle
              rw [if_neg hd, if_pos (by omega)]
              have hs' := Option.some.inj hs
              unfold cutL
              rw [List.map_drop, List.map_take, ← hs', List.take_take, List.drop_take, List.drop_drop, Nat.min_eq_left h2]
            · cases hs
        · cases hs

theorem IntsA.pre {m : Mem} {v : Value} {l : List Int} (h : IntsA m v l) {hi : Nat} (h2 : hi ≤ l.length) :
    ∃ v', slcA 1 v none (some (.int .i64 hi)) = some v' ∧ IntsA m v' (cutL l 0 hi) := by
  obtain ⟨x, e, hx⟩ := h.cut (lo := 0) (Nat.zero_le hi) h2
  rcases h.form with ⟨rfl, rfl⟩ | ⟨id, off, fl, rfl⟩
  · have e1 : hi = 0 := by simpa using h2
    subst e1
    exact ⟨.slice none 0 0, rfl, IntsA.nil m⟩
  · have hs : slcA 1 (.slice (some ⟨id, off, none⟩) l.length fl) none (some (.int .i64 hi)) = some (.slice (some ⟨id, off, none⟩) hi fl) := by
      simp [slcA, boundA, h2]
    have hs2 : slcA 1 (.slice (some ⟨id, off, none⟩) l.length fl) (some (.int .i64 0)) (some (.int .i64 hi)) = some (.slice (some ⟨id, off, none⟩) hi 0) := by
      simp [slcA, boundA, h2]
    have e0 : (((0 : Nat) : Int)) = 0 := rfl
    rw [e0, hs2] at e
    cases e
    have hc : (cutL l 0 hi).length = hi := by rw [cutL_len h2, Nat.sub_zero]
    refine ⟨_, hs, ?_⟩
    have a := hx
    refine ⟨a.len, a.bd, fun k hk => ?_, fun k hk => ?_, ?_⟩
    · have := a.at_ k hk
      simp only [iadA, pAt] at this ⊢
      exact this
    · exact a.ld k hk
    · exact a.src
theorem Ext.rd {m M : Mem} (h : Ext m M) {id k : Nat} {v : Value} (hv : rdc m id k = some v) : rdc M id k = some v := by
  obtain ⟨n0, rfl, h0⟩ := h
  exact rdc_ext (by rw [rdc_roM]; exact hv)
end Go.Proofs.Ytckpfgkgigicpaa.Ab
end
section
namespace Go.Proofs.Ytckpfgkgigicpaa.Ab
open Go Go.RowKit
set_option linter.unusedVariables false
set_option linter.unusedSimpArgs false
theorem CurA.cw {M M' : Mem} {cb id a : Nat} {l : List Int} (h : CurA M cb l id a) (hlen : M.length ≤ M'.length) (hl : ∀ i, i < M.length → M'[i]? = M[i]?) : CurA M' cb l id a := by
  obtain ⟨seed, hb⟩ := h.box
  have h1 := (List.getElem?_eq_some_iff.1 h.code).1
  exact ⟨(hl cb h1).trans h.code, h.byte, h.few, seed, (hl id h.lt).trans hb⟩
theorem CurA.ext {M : Mem} {cb id a : Nat} {l : List Int} (h : CurA M cb l id a) (new : Mem) : CurA (M ++ new) cb l id a :=
  h.cw (by simp) fun i hi => List.getElem?_append_left hi
theorem Cw.ext {id : Nat} {M M' : Mem} (h : Cw id M M') {new : Mem} (hn : NoRo new) : Cw id M (M' ++ new) :=
  ⟨by have := h.len; simp; omega, fun i h1 h2 => by rw [List.getElem?_append_left (by have := h.len; omega)]; exact h.old i h1 h2, fun i b h1 h2 => by
    by_cases hi : i < M'.length
    · rw [List.getElem?_append_left hi] at h2; exact h.new i b h1 h2
    · rw [List.getElem?_append_right (by omega)] at h2; exact hn b (List.mem_of_getElem? h2)⟩
theorem Cw.pre {id : Nat} {M new M' : Mem} (h : Cw id (M ++ new) M') (hn : NoRo new) (hid : id < M.length) : Cw id M M' :=
  ⟨by have := h.len; simp at this; omega, fun i h1 h2 => (h.old i h1 (by simp; omega)).trans (List.getElem?_append_left h2), fun i b h1 h2 => by
    by_cases hi : (M ++ new).length ≤ i
    · exact h.new i b hi h2
    · rw [h.old i (by omega) (by omega), List.getElem?_append_right h1] at h2
      exact hn b (List.mem_of_getElem? h2)⟩
theorem among_new (M : Mem) (cb id a : Nat) (l : List Int) (xs : List Int) {i n : Nat} (h : CurA M cb l id a) (ha : a ≤ 999999998) (hi : i = M.length) (hn : n = xs.length) (h1 : 1 ≤ xs.length) (h2 : xs.length ≤ 1000) :
    AC Try.prog 36 [.pointer (some ⟨id, 0, none⟩), .slice (some ⟨i, 0, none⟩) n 1] (M ++ [rowB xs]) fun r M' => ∃ x ∈ xs, r = .int .i64 x ∧ Cw id M M' ∧ ∃ a', a' ≤ a + 2 ∧ CurA M' cb l id a' := by
  subst hi hn
  have hid := h.lt
  have ho : OwnR (M ++ [rowB xs]) M.length xs := by unfold OwnR; simp
  refine (among_ac (M ++ [rowB xs]) cb id a l _ xs (h.ext _) ha (ho.ints (by omega) 1) (fun M' w => (w.own ho (by omega)).ints (by omega) 1) h1 h2).mono ?_
  rintro r M' ⟨x, hx, hr, w, k⟩
  exact ⟨x, hx, hr, w.pre (noRo_own noRo_nil) hid, k⟩

theorem CurA.put {M : Mem} {cb id a r : Nat} {l : List Int} (h : CurA M cb l id a) (hr : r ≠ cb) (hi : r ≠ id) (b : Blk) : CurA (M.set r b) cb l id a := by
  obtain ⟨s, hb⟩ := h.box
  exact ⟨by rw [List.getElem?_set_ne hr]; exact h.code, h.byte, h.few, s, by rw [List.getElem?_set_ne hi]; exact hb⟩
theorem Cw.put {id r : Nat} {M M' : Mem} (h : Cw id M M') (hr : M.length ≤ r) {b : Blk} (hb : b.kd ≠ .ro) : Cw id M (M'.set r b) := by
  refine ⟨by simpa using h.len, fun i h1 h2 => by rw [List.getElem?_set_ne (by omega)]; exact h.old i h1 h2, fun i c h1 h2 => ?_⟩
  by_cases e : r = i
  · subst e
    rcases at_set h2 with ⟨hne, _⟩ | ⟨_, hc, _⟩
    · exact absurd rfl hne
    · rw [← hc]; exact hb
  · rw [List.getElem?_set_ne e] at h2; exact h.new i c h1 h2
theorem CurA.cblt {M : Mem} {cb id a : Nat} {l : List Int} (h : CurA M cb l id a) : cb < M.length := (List.getElem?_eq_some_iff.1 h.code).1
structure Dr (M M' : Mem) (cb id a r : Nat) (l L : List Int) : Prop where
  hid : id < M.length
  hcb : cb < M.length
  cw : Cw id M M'
  cur : CurA M' cb l id a
  own : OwnR M' r L
  ge : M.length ≤ r
section
variable {M M' M2 : Mem} {cb id a a2 r : Nat} {l L : List Int}
theorem Dr.draw (h : Dr M M' cb id a r l L) (w : Cw id M' M2) (k : CurA M2 cb l id a2) : Dr M M2 cb id a2 r l L :=
  ⟨h.hid, h.hcb, Cw.trans h.hid h.cw w, k, w.own h.own (by have := h.hid; have := h.ge; omega), h.ge⟩
theorem Dr.ext (h : Dr M M' cb id a r l L) {new : Mem} (hn : NoRo new) : Dr M (M' ++ new) cb id a r l L :=
  ⟨h.hid, h.hcb, h.cw.ext hn, h.cur.ext new, h.own.ext new, h.ge⟩
theorem Dr.new (hid : id < M.length) (hcb : cb < M.length) (w : Cw id M M') (k : CurA M' cb l id a) {r : Nat} (hr : r = M'.length) (L : List Int) : Dr M (M' ++ [rowB L]) cb id a r l L := by
  subst hr
  exact ⟨hid, hcb, w.ext (noRo_own noRo_nil), k.ext _, by unfold OwnR; simp, w.len⟩
theorem Dr.app (h : Dr M M' cb id a r l L) (x : Int) (hl : L.length ≤ 1000) {i : Nat} (hi : i = M'.length) : ∃ M2,
    appP (M' ++ [⟨.own, 3, [.int .i64 x]⟩]) 3 1 8 (.slice (some ⟨r, 0, none⟩) L.length 1) (.slice (some ⟨i, 0, none⟩) 1 1) = some (.slice (some ⟨M'.length + 1, 0, none⟩) (L.length + 1) 1, M2) ∧
    Dr M M2 cb id a (M'.length + 1) l (L ++ [x]) := by
  subst hi
  have hge := h.ge
  have hlt := h.hid
  have hlc := h.hcb
  refine ⟨_, app_gen h.own (by omega), ?_⟩
  have w : Cw id M (M'.set r deadB ++ [⟨.own, 3, [.int .i64 x]⟩]) := (h.cw.put hge (by simp [deadB])).ext (noRo_own noRo_nil)
  have k : CurA (M'.set r deadB ++ [⟨.own, 3, [.int .i64 x]⟩]) cb l id a := (h.cur.put (by omega) (by omega) deadB).ext _
  have := Dr.new hlt hlc w k (r := M'.length + 1) (by simp) (L ++ [x])
  simpa [rowB] using this
theorem Dr.st (h : Dr M M' cb id a r l L) {j : Nat} (hj : j < L.length) (x : Int) : stA M' r j [.int .i64 x] = some (M'.set r (rowB (L.set j x))) ∧ Dr M (M'.set r (rowB (L.set j x))) cb id a r l (L.set j x) := by
  have hge := h.ge
  have hlt := h.hid
  have hlc := h.hcb
  exact ⟨h.own.st hj, h.hid, h.hcb, h.cw.put hge (by simp), h.cur.put (by omega) (by omega) _, h.own.set_self, hge⟩
end
theorem Cw.toExt {m M' : Mem} {b : Blk} {cb a : Nat} {l : List Int} (h : Cw m.length (roM m ++ [b]) M') (k : CurA M' cb l m.length a) : Ext m M' := by
  have hl := h.len
  simp only [List.length_append, List.length_cons, List.length_nil, roM_len] at hl
  have e : M' = roM m ++ M'.drop m.length := by
    apply List.ext_getElem?
    intro i
    by_cases hi : i < m.length
    · rw [List.getElem?_append_left (by rw [roM_len]; exact hi), h.old i (by omega) (by simp [roM_len]; omega), List.getElem?_append_left (by rw [roM_len]; exact hi)]
    · rw [List.getElem?_append_right (by rw [roM_len]; omega), List.getElem?_drop, roM_len, Nat.add_sub_cancel' (by omega)]
  refine ⟨M'.drop m.length, e, fun c hc => ?_⟩
  obtain ⟨j, hj, rfl⟩ := List.getElem_of_mem hc
  have hg : M'[m.length + j]? = some (M'.drop m.length)[j] := by
    rw [← List.getElem?_drop, List.getElem?_eq_getElem hj]
  by_cases e0 : j = 0
  · subst e0
    obtain ⟨s, hb⟩ := k.box
    rw [Nat.add_zero, hb] at hg
    rw [← Option.some.inj hg]; simp
  · exact h.new (m.length + j) _ (by simp [roM_len]; omega) hg
theorem draw_row' {m M' : Mem} {r : Nat} {L : List Int} (hx : Ext m M') (ho : OwnR M' r L) (hge : m.length ≤ r) : ∃ n0 i, M' = roM m ++ n0 ∧ NoRo n0 ∧ r = m.length + i ∧ n0[i]? = some (rowB L) := by
  obtain ⟨n0, rfl, h0⟩ := hx
  refine ⟨n0, r - m.length, rfl, h0, by omega, ?_⟩
  unfold OwnR at ho
  rwa [List.getElem?_append_right (by rw [roM_len]; exact hge), roM_len] at ho
end Go.Proofs.Ytckpfgkgigicpaa.Ab
end
