/- What the law needs of the texts that it rests on. -/
import Derived.Test.YtjdallbnbjnghaaAb2
import Derived.Test.YtjdallbnbjnghaaProg
import Derived.WalkKit
import Derived.Lib.Hide
import Derived.Below
import Derived.Laws.OwnMore
import Derived.Deep.Draws
import Derived.Test.YtjdallbnbjnghaaRows
import Derived.ProofKit
import Derived.SliceStrings
import Derived.OpenShut
import Derived.ChangeSlices
import Derived.Deep.Slices
import Derived.Test.YtjdallbnbjnghaaShelf
import Derived.JoinedOf
section
namespace Go.Proofs.Ytjdallbnbjnghaa.Ab
open Go Go.RowKit
theorem initT_5 (x y z u v a : Value) (xs : List Value) : initT (x :: y :: z :: u :: v :: a :: xs) 5 = a := rfl
theorem initT_6 (x y z u v a b : Value) (xs : List Value) : initT (x :: y :: z :: u :: v :: a :: b :: xs) 6 = b := rfl
theorem initT_7 (x y z u v a b c : Value) (xs : List Value) : initT (x :: y :: z :: u :: v :: a :: b :: c :: xs) 7 = c := rfl
theorem initT_8 (x y z u v a b c d : Value) (xs : List Value) : initT (x :: y :: z :: u :: v :: a :: b :: c :: d :: xs) 8 = d := rfl
theorem runE : type_of% (And.intro (And.intro (And.intro (And.intro (And.intro (And.intro (And.intro @goC_skip @goC_reg) (And.intro @goC_seq (And.intro @goC_cond @goC_block))) (And.intro (And.intro @goC_loop (And.intro @goC_exit @goC_ret)) (And.intro @goB_true (And.intro @goB_false @goX_seq_normal)))) (And.intro (And.intro (And.intro @goX_seq_exit (And.intro @goX_seq_ret @goX_block_normal)) (And.intro @goX_block_ret (And.intro @goX_block_exit @goX_done))) (And.intro (And.intro @goR_nil (And.intro @goV_some @goA_some)) (And.intro @goS_some (And.intro @goG_run @goG_tf))))) (And.intro (And.intro (And.intro (And.intro @goG_ft (And.intro @goG_no @goR_guard)) (And.intro @callV_func (And.intro @rcallV_func @pickA_true))) (And.intro (And.intro @pickA_false (And.intro @beqA_eq @beqA_ne)) (And.intro @convA_int (And.intro @stP_int @stP_bool)))) (And.intro (And.intro (And.intro @stP_sl (And.intro @stP_fn @seqQ_normal)) (And.intro @seqQ_exit (And.intro @seqQ_ret @bodyQ_ret))) (And.intro (And.intro @bodyQ_normal (And.intro @row_mv @row_cpy)) (And.intro @row_mmx (And.intro @mmA_min @mmA_max)))))) (And.intro (And.intro (And.intro (And.intro (And.intro @row_mkf @row_pick) (And.intro @row_beq (And.intro @row_conv @row_bld))) (And.intro (And.intro @row_box (And.intro @row_alc @row_bsl)) (And.intro @row_mks (And.intro @row_st @row_app)))) (And.intro (And.intro (And.intro @row_call (And.intro @row_rcall @row_bin)) (And.intro @row_un (And.intro @row_ld @row_fld))) (And.intro (And.intro @row_fad (And.intro @row_iad @row_iada)) (And.intro @row_idxs (And.intro @row_idxa @row_slc))))) (And.intro (And.intro (And.intro (And.intro (And.intro @row_slcs @row_slcp) (And.intro @row_len @row_lens)) (And.intro @row_ext (And.intro @row_nilc @ev_tmp))) (And.intro (And.intro @ev_const (And.intro @ev_func @put_t)) (And.intro @put_t' (And.intro @put_m @putT_t)))) (And.intro (And.intro (And.intro @putT_t' (And.intro @putT_m @init_t)) (And.intro @init_m (And.intro @initT_0 @initT_1))) (And.intro (And.intro @initT_2 (And.intro @initT_3 @initT_4)) (And.intro @empty_list (And.intro @arr_list @lenA_sl))))))) (And.intro (And.intro (And.intro @row_mif @row_sln) (And.intro @row_ptn (And.intro @ptnA_nil @ptnA_some))) (And.intro (And.intro (And.intro @row_cpz @cpzA_nil) @row_apz) (And.intro @row_clr (And.intro @row_inv @invV_some))))) := (And.intro (And.intro (And.intro (And.intro (And.intro (And.intro (And.intro @goC_skip @goC_reg) (And.intro @goC_seq (And.intro @goC_cond @goC_block))) (And.intro (And.intro @goC_loop (And.intro @goC_exit @goC_ret)) (And.intro @goB_true (And.intro @goB_false @goX_seq_normal)))) (And.intro (And.intro (And.intro @goX_seq_exit (And.intro @goX_seq_ret @goX_block_normal)) (And.intro @goX_block_ret (And.intro @goX_block_exit @goX_done))) (And.intro (And.intro @goR_nil (And.intro @goV_some @goA_some)) (And.intro @goS_some (And.intro @goG_run @goG_tf))))) (And.intro (And.intro (And.intro (And.intro @goG_ft (And.intro @goG_no @goR_guard)) (And.intro @callV_func (And.intro @rcallV_func @pickA_true))) (And.intro (And.intro @pickA_false (And.intro @beqA_eq @beqA_ne)) (And.intro @convA_int (And.intro @stP_int @stP_bool)))) (And.intro (And.intro (And.intro @stP_sl (And.intro @stP_fn @seqQ_normal)) (And.intro @seqQ_exit (And.intro @seqQ_ret @bodyQ_ret))) (And.intro (And.intro @bodyQ_normal (And.intro @row_mv @row_cpy)) (And.intro @row_mmx (And.intro @mmA_min @mmA_max)))))) (And.intro (And.intro (And.intro (And.intro (And.intro @row_mkf @row_pick) (And.intro @row_beq (And.intro @row_conv @row_bld))) (And.intro (And.intro @row_box (And.intro @row_alc @row_bsl)) (And.intro @row_mks (And.intro @row_st @row_app)))) (And.intro (And.intro (And.intro @row_call (And.intro @row_rcall @row_bin)) (And.intro @row_un (And.intro @row_ld @row_fld))) (And.intro (And.intro @row_fad (And.intro @row_iad @row_iada)) (And.intro @row_idxs (And.intro @row_idxa @row_slc))))) (And.intro (And.intro (And.intro (And.intro (And.intro @row_slcs @row_slcp) (And.intro @row_len @row_lens)) (And.intro @row_ext (And.intro @row_nilc @ev_tmp))) (And.intro (And.intro @ev_const (And.intro @ev_func @put_t)) (And.intro @put_t' (And.intro @put_m @putT_t)))) (And.intro (And.intro (And.intro @putT_t' (And.intro @putT_m @init_t)) (And.intro @init_m (And.intro @initT_0 @initT_1))) (And.intro (And.intro @initT_2 (And.intro @initT_3 @initT_4)) (And.intro @empty_list (And.intro @arr_list @lenA_sl))))))) (And.intro (And.intro (And.intro @row_mif @row_sln) (And.intro @row_ptn (And.intro @ptnA_nil @ptnA_some))) (And.intro (And.intro (And.intro @row_cpz @cpzA_nil) @row_apz) (And.intro @row_clr (And.intro @row_inv @invV_some)))))
theorem memE : type_of% (And.intro (And.intro (And.intro (And.intro (And.intro @fad1 @ld1) (And.intro @aggO_some @consO_some)) (And.intro (And.intro @rdn_0 @rdn_1) (And.intro @rdn_2 @rdn_3))) (And.intro (And.intro (And.intro @rdn_4 @rdn_5) (And.intro @rdn_6 @rdn_7)) (And.intro (And.intro @rdn_8 @rdc_lastH) (And.intro @rdc_left (And.intro @stA_left @stA_lastH))))) (And.intro (And.intro (And.intro (And.intro @stP_aggL @cells_agg) (And.intro @cells_sl @cells_int)) (And.intro (And.intro @cells_bool @cells_ptr) (And.intro @cells_str @cells_fn))) (And.intro (And.intro (And.intro @roM_len @onesB_sl) (And.intro @onesB_int @onesB_bool)) (And.intro (And.intro @onesB_str @onesB_ptr) (And.intro @onesB_fn (And.intro @onesB_nil @onesB_ints)))))) := (And.intro (And.intro (And.intro (And.intro (And.intro @fad1 @ld1) (And.intro @aggO_some @consO_some)) (And.intro (And.intro @rdn_0 @rdn_1) (And.intro @rdn_2 @rdn_3))) (And.intro (And.intro (And.intro @rdn_4 @rdn_5) (And.intro @rdn_6 @rdn_7)) (And.intro (And.intro @rdn_8 @rdc_lastH) (And.intro @rdc_left (And.intro @stA_left @stA_lastH))))) (And.intro (And.intro (And.intro (And.intro @stP_aggL @cells_agg) (And.intro @cells_sl @cells_int)) (And.intro (And.intro @cells_bool @cells_ptr) (And.intro @cells_str @cells_fn))) (And.intro (And.intro (And.intro @roM_len @onesB_sl) (And.intro @onesB_int @onesB_bool)) (And.intro (And.intro @onesB_str @onesB_ptr) (And.intro @onesB_fn (And.intro @onesB_nil @onesB_ints))))))
theorem listE : type_of% (And.intro (And.intro @List.map_cons.{0, 0} @List.map_nil.{0, 0}) (And.intro @List.cons_append.{0} (And.intro @List.nil_append.{0} @List.append_nil.{0}))) := (And.intro (And.intro @List.map_cons.{0, 0} @List.map_nil.{0, 0}) (And.intro @List.cons_append.{0} (And.intro @List.nil_append.{0} @List.append_nil.{0})))
theorem celE : type_of% (And.intro (And.intro (And.intro @Option.map_some.{0, 0} @List.getElem?_cons_zero.{0}) (And.intro @List.getElem?_cons_succ.{0} (And.intro @List.length_append.{0} @List.length_cons.{0}))) (And.intro (And.intro @List.length_nil.{0} @List.length_map.{0, 0}) (And.intro @List.length_set.{0} (And.intro @List.set_cons_zero.{0} @List.set_cons_succ.{0})))) := (And.intro (And.intro (And.intro @Option.map_some.{0, 0} @List.getElem?_cons_zero.{0}) (And.intro @List.getElem?_cons_succ.{0} (And.intro @List.length_append.{0} @List.length_cons.{0}))) (And.intro (And.intro @List.length_nil.{0} @List.length_map.{0, 0}) (And.intro @List.length_set.{0} (And.intro @List.set_cons_zero.{0} @List.set_cons_succ.{0}))))
theorem lenE : type_of% (And.intro (And.intro @List.length_append.{0} @List.length_cons.{0}) (And.intro @List.length_nil.{0} (And.intro @List.length_set.{0} @roM_len))) := (And.intro (And.intro @List.length_append.{0} @List.length_cons.{0}) (And.intro @List.length_nil.{0} (And.intro @List.length_set.{0} @roM_len)))
theorem mapE : type_of% (And.intro (And.intro (And.intro (And.intro (And.intro (And.intro @goC_both @row_aeq) @row_mkm) (And.intro @row_mup @row_lkp)) (And.intro (And.intro @stP_map @onesB_map) (And.intro @goC_range @rng_t2))) (And.intro (And.intro (And.intro @rng_t1 @rng_t0) (And.intro @rng_m @goC_scope)) (And.intro (And.intro @goC_goto @goC_label) (And.intro @goX_seq_goto (And.intro @goX_block_goto @goX_scope_normal))))) (And.intro (And.intro (And.intro (And.intro @goX_scope_ret @goX_scope_exit) (And.intro @goX_scope_goto @goJ_some)) (And.intro (And.intro @goJ_none @findA_seq) (And.intro @findA_label @findA_reg))) (And.intro (And.intro (And.intro @findA_skip @findA_cond) (And.intro @findA_block @findA_loop)) (And.intro (And.intro @findA_exit @findA_goto) (And.intro @findA_ret (And.intro @findS_some @findS_none)))))) := (And.intro (And.intro (And.intro (And.intro (And.intro (And.intro @goC_both @row_aeq) @row_mkm) (And.intro @row_mup @row_lkp)) (And.intro (And.intro @stP_map @onesB_map) (And.intro @goC_range @rng_t2))) (And.intro (And.intro (And.intro @rng_t1 @rng_t0) (And.intro @rng_m @goC_scope)) (And.intro (And.intro @goC_goto @goC_label) (And.intro @goX_seq_goto (And.intro @goX_block_goto @goX_scope_normal))))) (And.intro (And.intro (And.intro (And.intro @goX_scope_ret @goX_scope_exit) (And.intro @goX_scope_goto @goJ_some)) (And.intro (And.intro @goJ_none @findA_seq) (And.intro @findA_label @findA_reg))) (And.intro (And.intro (And.intro @findA_skip @findA_cond) (And.intro @findA_block @findA_loop)) (And.intro (And.intro @findA_exit @findA_goto) (And.intro @findA_ret (And.intro @findS_some @findS_none))))))
end Go.Proofs.Ytjdallbnbjnghaa.Ab
end
section
namespace Go.Proofs.Ytjdallbnbjnghaa.Ab
open Go Go.RowKit Go.Proofs
set_option maxRecDepth 100000
def c_laws_rBig : ACode := .seq (.reg [⟨(some 2), .mv (.const (.bool false)), none⟩])
 (.seq (.reg [⟨(some 3), .mv (.tmp 0), none⟩,
  ⟨(some 4), .len (.tmp 3), none⟩,
  ⟨(some 5), .bin .gtr (.tmp 4) (.const (.int .i64 65536)), none⟩,
  ⟨(some 2), .mv (.tmp 5), none⟩])
 (.ret))
def r_laws_rBig : List ARes := [.tmp 2]
theorem ok_laws_rBig : FnOk Try.prog 6 6 c_laws_rBig r_laws_rBig := ⟨⟨Try.f6, _, Try.func6, by kernel_rfl, rfl, rfl, by kernel_rfl, by kernel_rfl⟩⟩
def c_laws_rInts : ACode := .seq (.reg [⟨(some 4), .mv (.const (.bool false)), none⟩])
 (.seq (.seq (.reg [⟨(some 6), .mv (.tmp 0), none⟩,
  ⟨(some 7), .len (.tmp 6), none⟩,
  ⟨(some 8), .mv (.tmp 1), none⟩,
  ⟨(some 9), .len (.tmp 8), none⟩,
  ⟨(some 10), .bin .neq (.tmp 7) (.tmp 9), none⟩])
 (.cond (.tmp 10) (.seq (.reg [⟨(some 4), .mv (.const (.bool false)), none⟩])
 (.ret)) (.skip)))
 (.seq (.seq (.reg [⟨(some 5), .mv (.const (.int .i64 0)), none⟩])
 (.block 0 (.loop (.seq (.seq (.reg [⟨(some 11), .mv (.tmp 5), none⟩,
  ⟨(some 12), .mv (.tmp 0), none⟩,
  ⟨(some 13), .len (.tmp 12), none⟩,
  ⟨(some 14), .bin .lss (.tmp 11) (.tmp 13), none⟩])
 (.cond (.tmp 14) (.skip) (.exit 0)))
 (.seq (.block 1 (.seq (.reg [⟨(some 17), .mv (.tmp 0), none⟩,
  ⟨(some 18), .mv (.tmp 5), none⟩,
  ⟨(some 19), .iad 1 (.tmp 17) (.tmp 18), none⟩,
  ⟨(some 20), .ld none (.tmp 19), none⟩,
  ⟨(some 21), .mv (.tmp 1), none⟩,
  ⟨(some 22), .mv (.tmp 5), none⟩,
  ⟨(some 23), .iad 1 (.tmp 21) (.tmp 22), none⟩,
  ⟨(some 24), .ld none (.tmp 23), none⟩,
  ⟨(some 25), .bin .neq (.tmp 20) (.tmp 24), none⟩])
 (.cond (.tmp 25) (.seq (.reg [⟨(some 4), .mv (.const (.bool false)), none⟩])
 (.ret)) (.skip))))
 (.reg [⟨(some 15), .mv (.tmp 5), none⟩,
  ⟨(some 16), .bin .add (.tmp 15) (.const (.int .i64 1)), none⟩,
  ⟨(some 5), .mv (.tmp 16), none⟩]))))))
 (.seq (.reg [⟨(some 4), .mv (.const (.bool true)), none⟩])
 (.ret))))
def r_laws_rInts : List ARes := [.tmp 4]
theorem ok_laws_rInts : FnOk Try.prog 10 26 c_laws_rInts r_laws_rInts := ⟨⟨Try.f10, _, Try.func10, by kernel_rfl, rfl, rfl, by kernel_rfl, by kernel_rfl⟩⟩
def c_laws_rSum : ACode := .seq (.reg [⟨(some 2), .mv (.const (.int .i64 0)), none⟩])
 (.seq (.reg [⟨(some 3), .mv (.const (.int .i64 0)), none⟩])
 (.seq (.seq (.reg [⟨(some 4), .mv (.const (.int .i64 0)), none⟩])
 (.block 0 (.loop (.seq (.seq (.reg [⟨(some 5), .mv (.tmp 4), none⟩,
  ⟨(some 6), .mv (.tmp 0), none⟩,
  ⟨(some 7), .len (.tmp 6), none⟩,
  ⟨(some 8), .bin .lss (.tmp 5) (.tmp 7), none⟩])
 (.cond (.tmp 8) (.skip) (.exit 0)))
 (.seq (.block 1 (.reg [⟨(some 11), .mv (.tmp 3), none⟩,
  ⟨(some 12), .mv (.tmp 0), none⟩,
  ⟨(some 13), .mv (.tmp 4), none⟩,
  ⟨(some 14), .iad 1 (.tmp 12) (.tmp 13), none⟩,
  ⟨(some 15), .ld none (.tmp 14), none⟩,
  ⟨(some 16), .bin .add (.tmp 11) (.tmp 15), none⟩,
  ⟨(some 3), .mv (.tmp 16), none⟩]))
 (.reg [⟨(some 9), .mv (.tmp 4), none⟩,
  ⟨(some 10), .bin .add (.tmp 9) (.const (.int .i64 1)), none⟩,
  ⟨(some 4), .mv (.tmp 10), none⟩]))))))
 (.seq (.reg [⟨(some 17), .mv (.tmp 3), none⟩,
  ⟨(some 2), .mv (.tmp 17), none⟩])
 (.ret))))
def r_laws_rSum : List ARes := [.tmp 2]
theorem ok_laws_rSum : FnOk Try.prog 20 18 c_laws_rSum r_laws_rSum := ⟨⟨Try.f20, _, Try.func20, by kernel_rfl, rfl, rfl, by kernel_rfl, by kernel_rfl⟩⟩
def c_laws_rPairs : ACode := .seq (.reg [⟨(some 4), .mv (.const (.bool false)), none⟩])
 (.seq (.seq (.reg [⟨(some 6), .mv (.tmp 0), none⟩,
  ⟨(some 7), .len (.tmp 6), none⟩,
  ⟨(some 8), .mv (.tmp 1), none⟩,
  ⟨(some 9), .len (.tmp 8), none⟩,
  ⟨(some 10), .bin .neq (.tmp 7) (.tmp 9), none⟩])
 (.cond (.tmp 10) (.seq (.reg [⟨(some 4), .mv (.const (.bool false)), none⟩])
 (.ret)) (.skip)))
 (.seq (.seq (.reg [⟨(some 5), .mv (.const (.int .i64 0)), none⟩])
 (.block 0 (.loop (.seq (.seq (.reg [⟨(some 11), .mv (.tmp 5), none⟩,
  ⟨(some 12), .mv (.tmp 0), none⟩,
  ⟨(some 13), .len (.tmp 12), none⟩,
  ⟨(some 14), .bin .lss (.tmp 11) (.tmp 13), none⟩])
 (.cond (.tmp 14) (.skip) (.exit 0)))
 (.seq (.block 1 (.seq (.reg [⟨(some 17), .mv (.tmp 0), none⟩,
  ⟨(some 18), .mv (.tmp 5), none⟩,
  ⟨(some 19), .iad 2 (.tmp 17) (.tmp 18), none⟩,
  ⟨(some 20), .ld (some 2) (.tmp 19), none⟩,
  ⟨(some 21), .mv (.tmp 1), none⟩,
  ⟨(some 22), .mv (.tmp 5), none⟩,
  ⟨(some 23), .iad 2 (.tmp 21) (.tmp 22), none⟩,
  ⟨(some 24), .ld (some 2) (.tmp 23), none⟩,
  ⟨(some 25), .aeq true 2 (.tmp 20) (.tmp 24), none⟩])
 (.cond (.tmp 25) (.seq (.reg [⟨(some 4), .mv (.const (.bool false)), none⟩])
 (.ret)) (.skip))))
 (.reg [⟨(some 15), .mv (.tmp 5), none⟩,
  ⟨(some 16), .bin .add (.tmp 15) (.const (.int .i64 1)), none⟩,
  ⟨(some 5), .mv (.tmp 16), none⟩]))))))
 (.seq (.reg [⟨(some 4), .mv (.const (.bool true)), none⟩])
 (.ret))))
def r_laws_rPairs : List ARes := [.tmp 4]
theorem ok_laws_rPairs : FnOk Try.prog 43 26 c_laws_rPairs r_laws_rPairs := ⟨⟨Try.f43, _, Try.func43, by kernel_rfl, rfl, rfl, by kernel_rfl, by kernel_rfl⟩⟩
end Go.Proofs.Ytjdallbnbjnghaa.Ab
end
section
namespace Go.Proofs.Ytjdallbnbjnghaa.Ab
open Go Go.RowKit
set_option linter.unusedVariables false
set_option linter.unusedSimpArgs false
theorem mixed : Try.prog.follows .mixedOrders = true := by kernel_rfl
def imarks (k : Int) (n : Nat) : List Int := (List.range n).map fun (j : Nat) => k + (j : Int)
end Go.Proofs.Ytjdallbnbjnghaa.Ab
end
section
namespace Go.Proofs.Ytjdallbnbjnghaa
set_option linter.unusedVariables false
def rowB (l : List Int) (n : Nat) (most : Int) : Bool := l.all (fun x => decide (0 ≤ x) && decide (x ≤ most)) && decide (l.length = n)
theorem rowB_iff {l : List Int} {n : Nat} {most : Int} : rowB l n most = true ↔ (∀ x ∈ l, 0 ≤ x ∧ x ≤ most) ∧ l.length = n := by
  simp [rowB]

structure Cs where
  need : List Int
  setup : List Int
  unit : List Int
  hold : List Int
def Cs.good (c : Cs) : Bool := decide (c.need.length ≤ 8) && rowB c.need c.need.length 20 && rowB c.setup c.need.length 99 && rowB c.unit c.need.length 9 && rowB c.hold c.need.length 9
structure Good (c : Cs) : Prop where
  n8 : c.need.length ≤ 8
  need : ∀ x ∈ c.need, 0 ≤ x ∧ x ≤ 20
  setup : ∀ x ∈ c.setup, 0 ≤ x ∧ x ≤ 99
  unit : ∀ x ∈ c.unit, 0 ≤ x ∧ x ≤ 9
  hold : ∀ x ∈ c.hold, 0 ≤ x ∧ x ≤ 9
  ls : c.setup.length = c.need.length
  lu : c.unit.length = c.need.length
  lh : c.hold.length = c.need.length
def sumTo (l : List Int) (k : Nat) : Int := (l.take k).sum
theorem sumTo_succ {l : List Int} {k : Nat} {x : Int} (h : l[k]? = some x) : sumTo l (k + 1) = sumTo l k + x := by
  obtain ⟨hk, rfl⟩ := List.getElem?_eq_some_iff.1 h
  unfold sumTo
  rw [List.take_succ_eq_append_getElem hk, List.sum_append]
  simp
theorem sumTo_all {l : List Int} {k : Nat} (h : l.length ≤ k) : sumTo l k = l.sum := by
  unfold sumTo; rw [List.take_of_length_le h]
theorem sumTo_bound {l : List Int} {m : Int} (hm : 0 ≤ m) (h : ∀ x ∈ l, 0 ≤ x ∧ x ≤ m) (k : Nat) : 0 ≤ sumTo l k ∧ sumTo l k ≤ m * k := by
  induction k with
  | zero => simp [sumTo]
  | succ k ih =>
    by_cases hk : k < l.length
    · have h1 := sumTo_succ (List.getElem?_eq_getElem hk)
      have h2 := h _ (List.getElem_mem hk)
      rw [h1]
      have : m * ((k + 1 : Nat) : Int) = m * k + m := by rw [Int.natCast_add, Int.mul_add]; simp
      omega
    · have h1 : sumTo l (k + 1) = sumTo l k := by rw [sumTo_all (by omega), sumTo_all (by omega)]
      rw [h1]
      have : m * ((k + 1 : Nat) : Int) = m * k + m := by rw [Int.natCast_add, Int.mul_add]; simp
      omega
end Go.Proofs.Ytjdallbnbjnghaa
end
section
namespace Go.Proofs.Ytjdallbnbjnghaa.Ab
open Go Go.RowKit
set_option linter.unusedVariables false
set_option linter.unusedSimpArgs false
abbrev rowB (l : List Int) : Blk := ⟨.own, 3, l.map (Value.int .i64)⟩
def markR (m : Mem) (id : Nat) (k0 : Int) (n : Nat) : Mem := m.set id (rowB (imarks k0 n))
theorem markR_len (m : Mem) (id : Nat) (k0 : Int) (n : Nat) : (markR m id k0 n).length = m.length := by simp [markR]

structure CaseA (m : Mem) (v : Value) (k : Cs) : Prop where
  ok : ∃ v1 v2 v3 v4, v = .agg #[v1, v2, v3, v4] ∧ IntsA m v1 k.need ∧ IntsA m v2 k.setup ∧ IntsA m v3 k.unit ∧ IntsA m v4 k.hold
theorem CaseA.ext {m : Mem} {v : Value} {k : Cs} (h : CaseA m v k) (new : Mem) : CaseA (m ++ new) v k := by
  obtain ⟨v1, v2, v3, v4, h0, h1, h2, h3, h4⟩ := h.ok
  exact ⟨v1, v2, v3, v4, h0, h1.ext new, h2.ext new, h3.ext new, h4.ext new⟩
theorem CaseA.ro {m : Mem} {v : Value} {k : Cs} (h : CaseA m v k) : CaseA (roM m) v k := by
  obtain ⟨v1, v2, v3, v4, h0, h1, h2, h3, h4⟩ := h.ok
  exact ⟨v1, v2, v3, v4, h0, h1.ro, h2.ro, h3.ro, h4.ro⟩
def _root_.Go.Proofs.Ytjdallbnbjnghaa.Cs.tot (k : Cs) : Int := k.need.length + k.setup.length + k.unit.length + k.hold.length
def OwnR (m : Mem) (id : Nat) (l : List Int) : Prop := m[id]? = some (rowB l)
theorem OwnR.lt {m : Mem} {id : Nat} {l : List Int} (h : OwnR m id l) : id < m.length := (List.getElem?_eq_some_iff.1 h).1
theorem OwnR.ext {m : Mem} {id : Nat} {l : List Int} (h : OwnR m id l) (new : Mem) : OwnR (m ++ new) id l := by
  unfold OwnR; rw [List.getElem?_append_left h.lt]; exact h
theorem OwnR.ints {m : Mem} {id : Nat} {l : List Int} (h : OwnR m id l) (hb : l.length ≤ 9223372036854775807) (fl : Nat) : IntsA m (.slice (some ⟨id, 0, none⟩) l.length fl) l := by
  refine IntsA.of_block hb (fun k hk => ?_) ?_
  · unfold rdc
    rw [show m[id]? = some (rowB l) from h]
    simp [hk]
  · unfold rdl
    rw [show m[id]? = some (rowB l) from h]
    simp [List.take_of_length_le]
theorem OwnR.other {m : Mem} {id id' : Nat} {l : List Int} (k0 : Int) (n : Nat) (h : OwnR m id' l) (hne : id ≠ id') : OwnR (markR m id k0 n) id' l := by
  unfold OwnR markR; rw [List.getElem?_set_ne hne]; exact h

end Go.Proofs.Ytjdallbnbjnghaa.Ab
end
section
namespace Go.Proofs.Ytjdallbnbjnghaa.Ab
open Go Go.RowKit Go.Proofs
set_option maxRecDepth 100000
def c_spec_DrawParcelStocks : ACode := .seq (.reg [⟨(some 2), .mv (.const (.int .i64 0)), none⟩,
  ⟨(some 3), .mv (.const (.slice none 0 0)), none⟩,
  ⟨(some 4), .mv (.const (.slice none 0 0)), none⟩])
 (.seq (.reg [⟨(some 7), .mv (.tmp 0), none⟩,
  ⟨(some 8), .bld [(.slice none 0 0), (.int .i64 0), (.int .u64 0)] [(0, 1, (.tmp 7))], none⟩,
  ⟨(some 9), .box 75 (.tmp 8), none⟩,
  ⟨(some 5), .mv (.tmp 9), none⟩])
 (.seq (.reg [⟨(some 10), .mv (.tmp 5), none⟩,
  ⟨(some 11), .call (.func 87) [(.tmp 10)], none⟩,
  ⟨(some 6), .mv (.tmp 11), none⟩])
 (.seq (.reg [⟨(some 12), .mv (.tmp 5), none⟩,
  ⟨(some 13), .bsl 3 1 8 [(.int .i64 0), (.int .i64 0), (.int .i64 0), (.int .i64 0), (.int .i64 0), (.int .i64 0), (.int .i64 0), (.int .i64 0)] [(0, 1, (.const (.int .i64 0))), (1, 1, (.const (.int .i64 5))), (2, 1, (.const (.int .i64 20))), (3, 1, (.const (.int .i64 (-3)))), (4, 1, (.const (.int .i64 200))), (5, 1, (.const (.int .i64 201))), (6, 1, (.const (.int .i64 (-201)))), (7, 1, (.const (.int .i64 1)))], none⟩,
  ⟨(some 14), .call (.func 63) [(.tmp 12), (.tmp 13)], none⟩,
  ⟨(some 15), .mv (.tmp 6), none⟩,
  ⟨(some 16), .mv (.tmp 5), none⟩,
  ⟨(some 17), .call (.func 48) [(.tmp 16)], none⟩,
  ⟨(some 2), .mv (.tmp 14), none⟩,
  ⟨(some 3), .mv (.tmp 15), none⟩,
  ⟨(some 4), .mv (.tmp 17), none⟩])
 (.ret))))
def r_spec_DrawParcelStocks : List ARes := [.tmp 2, .tmp 3, .tmp 4]
theorem ok_spec_DrawParcelStocks : FnOk Try.prog 35 18 c_spec_DrawParcelStocks r_spec_DrawParcelStocks := ⟨⟨Try.f35, _, Try.func35, by kernel_rfl, rfl, rfl, by kernel_rfl, by kernel_rfl⟩⟩
def c_spec_DrawStraightLeads : ACode := .seq (.reg [⟨(some 2), .mv (.const (.slice none 0 0)), none⟩])
 (.seq (.reg [⟨(some 3), .mv (.tmp 0), none⟩,
  ⟨(some 4), .call (.func 95) [(.tmp 3)], none⟩,
  ⟨(some 2), .mv (.tmp 4), none⟩])
 (.ret))
def r_spec_DrawStraightLeads : List ARes := [.tmp 2]
theorem ok_spec_DrawStraightLeads : FnOk Try.prog 38 5 c_spec_DrawStraightLeads r_spec_DrawStraightLeads := ⟨⟨Try.f38, _, Try.func38, by kernel_rfl, rfl, rfl, by kernel_rfl, by kernel_rfl⟩⟩
def c_spec_l1Cur__calls : ACode := .seq (.reg [⟨(some 2), .mv (.const (.slice none 0 0)), none⟩])
 (.seq (.reg [⟨(some 5), .bsl 3 1 0 [] [], none⟩,
  ⟨(some 3), .mv (.tmp 5), none⟩])
 (.seq (.seq (.reg [⟨(some 6), .mv (.tmp 0), none⟩,
  ⟨(some 7), .bsl 3 1 7 [(.int .i64 0), (.int .i64 0), (.int .i64 0), (.int .i64 0), (.int .i64 0), (.int .i64 0), (.int .i64 0)] [(0, 1, (.const (.int .i64 5))), (1, 1, (.const (.int .i64 8))), (2, 1, (.const (.int .i64 3))), (3, 1, (.const (.int .i64 1))), (4, 1, (.const (.int .i64 0))), (5, 1, (.const (.int .i64 12))), (6, 1, (.const (.int .i64 20)))], none⟩,
  ⟨(some 8), .call (.func 63) [(.tmp 6), (.tmp 7)], none⟩,
  ⟨(some 4), .mv (.tmp 8), none⟩])
 (.block 0 (.loop (.seq (.seq (.reg [⟨(some 9), .mv (.tmp 4), none⟩,
  ⟨(some 10), .bin .gtr (.tmp 9) (.const (.int .i64 0)), none⟩])
 (.cond (.tmp 10) (.skip) (.exit 0)))
 (.seq (.block 1 (.reg [⟨(some 13), .mv (.tmp 3), none⟩,
  ⟨(some 14), .mv (.tmp 0), none⟩,
  ⟨(some 15), .bsl 3 1 6 [(.int .i64 0), (.int .i64 0), (.int .i64 0), (.int .i64 0), (.int .i64 0), (.int .i64 0)] [(0, 1, (.const (.int .i64 0))), (1, 1, (.const (.int .i64 1))), (2, 1, (.const (.int .i64 2))), (3, 1, (.const (.int .i64 3))), (4, 1, (.const (.int .i64 5))), (5, 1, (.const (.int .i64 8)))], none⟩,
  ⟨(some 16), .call (.func 63) [(.tmp 14), (.tmp 15)], none⟩,
  ⟨(some 17), .bsl 3 1 1 [(.int .i64 0)] [(0, 1, (.tmp 16))], none⟩,
  ⟨(some 18), .app 3 1 8 (.tmp 13) (.tmp 17), none⟩,
  ⟨(some 3), .mv (.tmp 18), none⟩]))
 (.reg [⟨(some 11), .mv (.tmp 4), none⟩,
  ⟨(some 12), .bin .sub (.tmp 11) (.const (.int .i64 1)), none⟩,
  ⟨(some 4), .mv (.tmp 12), none⟩]))))))
 (.seq (.seq (.reg [⟨(some 19), .mv (.tmp 0), none⟩,
  ⟨(some 20), .call (.func 64) [(.tmp 19), (.const (.int .i64 40))], none⟩])
 (.block 2 (.seq (.reg [⟨(some 22), .bin .eql (.tmp 20) (.const (.int .i64 0)), none⟩,
  ⟨(some 21), .mv (.tmp 22), none⟩])
 (.cond (.tmp 21) (.block 3 (.loop (.seq (.seq (.reg [⟨(some 23), .mv (.tmp 3), none⟩,
  ⟨(some 24), .len (.tmp 23), none⟩,
  ⟨(some 25), .bin .lss (.tmp 24) (.const (.int .i64 21)), none⟩])
 (.cond (.tmp 25) (.skip) (.exit 3)))
 (.block 4 (.reg [⟨(some 26), .mv (.tmp 3), none⟩,
  ⟨(some 27), .bsl 3 1 1 [(.int .i64 0)] [(0, 1, (.const (.int .i64 1)))], none⟩,
  ⟨(some 28), .app 3 1 8 (.tmp 26) (.tmp 27), none⟩,
  ⟨(some 3), .mv (.tmp 28), none⟩]))))) (.seq (.reg [⟨(some 30), .bin .eql (.tmp 20) (.const (.int .i64 1)), none⟩,
  ⟨(some 29), .mv (.tmp 30), none⟩])
 (.cond (.tmp 29) (.seq (.reg [⟨(some 31), .mv (.tmp 3), none⟩,
  ⟨(some 32), .len (.tmp 31), none⟩,
  ⟨(some 33), .bin .gtr (.tmp 32) (.const (.int .i64 0)), none⟩])
 (.cond (.tmp 33) (.reg [⟨(some 34), .mv (.tmp 3), none⟩,
  ⟨(some 35), .mv (.tmp 0), none⟩,
  ⟨(some 36), .bsl 3 1 3 [(.int .i64 0), (.int .i64 0), (.int .i64 0)] [(0, 1, (.const (.int .i64 (-1)))), (1, 1, (.const (.int .i64 20))), (2, 1, (.const (.int .i64 21)))], none⟩,
  ⟨(some 37), .call (.func 63) [(.tmp 35), (.tmp 36)], none⟩,
  ⟨(some 38), .iad 1 (.tmp 34) (.const (.int .i64 0)), none⟩,
  ⟨none, .st 1 (.tmp 38) (.tmp 37), none⟩]) (.skip))) (.skip)))))))
 (.seq (.reg [⟨(some 39), .mv (.tmp 3), none⟩,
  ⟨(some 2), .mv (.tmp 39), none⟩])
 (.ret)))))
def r_spec_l1Cur__calls : List ARes := [.tmp 2]
theorem ok_spec_l1Cur__calls : FnOk Try.prog 48 40 c_spec_l1Cur__calls r_spec_l1Cur__calls := ⟨⟨Try.f48, _, Try.func48, by kernel_rfl, rfl, rfl, by kernel_rfl, by kernel_rfl⟩⟩
def c_spec_l1Cur__among : ACode := .seq (.reg [⟨(some 4), .mv (.const (.int .i64 0)), none⟩])
 (.seq (.reg [⟨(some 5), .mv (.tmp 1), none⟩,
  ⟨(some 6), .mv (.tmp 0), none⟩,
  ⟨(some 7), .mv (.tmp 1), none⟩,
  ⟨(some 8), .len (.tmp 7), none⟩,
  ⟨(some 9), .call (.func 64) [(.tmp 6), (.tmp 8)], none⟩,
  ⟨(some 10), .iad 1 (.tmp 5) (.tmp 9), none⟩,
  ⟨(some 11), .ld none (.tmp 10), none⟩,
  ⟨(some 4), .mv (.tmp 11), none⟩])
 (.ret))
def r_spec_l1Cur__among : List ARes := [.tmp 4]
theorem ok_spec_l1Cur__among : FnOk Try.prog 63 12 c_spec_l1Cur__among r_spec_l1Cur__among := ⟨⟨Try.f63, _, Try.func63, by kernel_rfl, rfl, rfl, by kernel_rfl, by kernel_rfl⟩⟩
def c_spec_l1Cur__pick : ACode := .seq (.reg [⟨(some 4), .mv (.const (.int .i64 0)), none⟩])
 (.seq (.seq (.reg [⟨(some 6), .mv (.tmp 1), none⟩,
  ⟨(some 7), .bin .leq (.tmp 6) (.const (.int .i64 1)), none⟩])
 (.cond (.tmp 7) (.seq (.reg [⟨(some 4), .mv (.const (.int .i64 0)), none⟩])
 (.ret)) (.skip)))
 (.seq (.reg [⟨(some 8), .mv (.tmp 0), none⟩,
  ⟨(some 9), .call (.func 110) [(.tmp 8)], none⟩,
  ⟨(some 5), .mv (.tmp 9), none⟩])
 (.seq (.seq (.reg [⟨(some 10), .mv (.tmp 1), none⟩,
  ⟨(some 11), .bin .gtr (.tmp 10) (.const (.int .i64 200)), none⟩])
 (.cond (.tmp 11) (.reg [⟨(some 12), .mv (.tmp 5), none⟩,
  ⟨(some 13), .bin .mul (.tmp 12) (.const (.int .i64 256)), none⟩,
  ⟨(some 14), .mv (.tmp 0), none⟩,
  ⟨(some 15), .call (.func 110) [(.tmp 14)], none⟩,
  ⟨(some 16), .bin .add (.tmp 13) (.tmp 15), none⟩,
  ⟨(some 5), .mv (.tmp 16), none⟩]) (.skip)))
 (.seq (.reg [⟨(some 17), .mv (.tmp 5), none⟩,
  ⟨(some 18), .mv (.tmp 1), none⟩,
  ⟨(some 19), .bin .rem (.tmp 17) (.tmp 18), none⟩,
  ⟨(some 4), .mv (.tmp 19), none⟩])
 (.ret)))))
def r_spec_l1Cur__pick : List ARes := [.tmp 4]
theorem ok_spec_l1Cur__pick : FnOk Try.prog 64 20 c_spec_l1Cur__pick r_spec_l1Cur__pick := ⟨⟨Try.f64, _, Try.func64, by kernel_rfl, rfl, rfl, by kernel_rfl, by kernel_rfl⟩⟩
def c_spec_l1Cur__parcels : ACode := .seq (.reg [⟨(some 2), .mv (.const (.slice none 0 0)), none⟩])
 (.seq (.reg [⟨(some 9), .bsl 66 3 0 [] [], none⟩,
  ⟨(some 10), .mv (.tmp 0), none⟩,
  ⟨(some 11), .bsl 3 1 4 [(.int .i64 0), (.int .i64 0), (.int .i64 0), (.int .i64 0)] [(0, 1, (.const (.int .i64 0))), (1, 1, (.const (.int .i64 1))), (2, 1, (.const (.int .i64 3))), (3, 1, (.const (.int .i64 5)))], none⟩,
  ⟨(some 12), .call (.func 63) [(.tmp 10), (.tmp 11)], none⟩,
  ⟨(some 3), .mv (.tmp 9), none⟩,
  ⟨(some 4), .mv (.const (.int .i64 1)), none⟩,
  ⟨(some 5), .mv (.tmp 12), none⟩])
 (.seq (.seq (.reg [⟨(some 13), .mv (.tmp 0), none⟩,
  ⟨(some 14), .bsl 3 1 7 [(.int .i64 0), (.int .i64 0), (.int .i64 0), (.int .i64 0), (.int .i64 0), (.int .i64 0), (.int .i64 0)] [(0, 1, (.const (.int .i64 4))), (1, 1, (.const (.int .i64 6))), (2, 1, (.const (.int .i64 2))), (3, 1, (.const (.int .i64 1))), (4, 1, (.const (.int .i64 0))), (5, 1, (.const (.int .i64 12))), (6, 1, (.const (.int .i64 13)))], none⟩,
  ⟨(some 15), .call (.func 63) [(.tmp 13), (.tmp 14)], none⟩,
  ⟨(some 6), .mv (.tmp 15), none⟩])
 (.block 0 (.loop (.seq (.seq (.reg [⟨(some 16), .mv (.tmp 6), none⟩,
  ⟨(some 17), .bin .gtr (.tmp 16) (.const (.int .i64 0)), none⟩])
 (.cond (.tmp 17) (.skip) (.exit 0)))
 (.seq (.block 1 (.seq (.reg [⟨(some 20), .mv (.tmp 4), none⟩,
  ⟨(some 21), .mv (.tmp 5), none⟩,
  ⟨(some 22), .mv (.tmp 0), none⟩,
  ⟨(some 23), .call (.func 64) [(.tmp 22), (.const (.int .i64 5))], none⟩,
  ⟨(some 24), .bld [(.int .i64 0), (.int .i64 0), (.int .i64 0)] [(0, 1, (.tmp 20)), (1, 1, (.tmp 21)), (2, 1, (.tmp 23))], none⟩,
  ⟨(some 7), .alc 66 [(.int .i64 0), (.int .i64 0), (.int .i64 0)], none⟩,
  ⟨none, .st 3 (.tmp 7) (.tmp 24), none⟩])
 (.seq (.seq (.reg [⟨(some 25), .mv (.tmp 5), none⟩,
  ⟨(some 26), .bin .eql (.tmp 25) (.const (.int .i64 0)), none⟩])
 (.cond (.tmp 26) (.reg [⟨(some 27), .mv (.tmp 0), none⟩,
  ⟨(some 28), .call (.func 64) [(.tmp 27), (.const (.int .i64 9))], none⟩,
  ⟨(some 29), .bin .add (.const (.int .i64 1)) (.tmp 28), none⟩,
  ⟨(some 30), .fad 1 (.tmp 7), none⟩,
  ⟨none, .st 1 (.tmp 30) (.tmp 29), none⟩]) (.skip)))
 (.seq (.reg [⟨(some 31), .mv (.tmp 3), none⟩,
  ⟨(some 32), .ld (some 3) (.tmp 7), none⟩,
  ⟨(some 33), .bsl 66 3 1 [(.int .i64 0), (.int .i64 0), (.int .i64 0)] [(0, 3, (.tmp 32))], none⟩,
  ⟨(some 34), .app 66 3 24 (.tmp 31) (.tmp 33), none⟩,
  ⟨(some 3), .mv (.tmp 34), none⟩])
 (.reg [⟨(some 35), .mv (.tmp 4), none⟩,
  ⟨(some 36), .mv (.tmp 0), none⟩,
  ⟨(some 37), .call (.func 64) [(.tmp 36), (.const (.int .i64 3))], none⟩,
  ⟨(some 38), .bin .add (.tmp 35) (.tmp 37), none⟩,
  ⟨(some 4), .mv (.tmp 38), none⟩])))))
 (.reg [⟨(some 18), .mv (.tmp 6), none⟩,
  ⟨(some 19), .bin .sub (.tmp 18) (.const (.int .i64 1)), none⟩,
  ⟨(some 6), .mv (.tmp 19), none⟩]))))))
 (.seq (.seq (.reg [⟨(some 39), .mv (.tmp 3), none⟩,
  ⟨(some 40), .len (.tmp 39), none⟩,
  ⟨(some 41), .bin .gtr (.tmp 40) (.const (.int .i64 0)), none⟩])
 (.cond (.tmp 41) (.seq (.reg [⟨(some 42), .mv (.tmp 0), none⟩,
  ⟨(some 43), .mv (.tmp 3), none⟩,
  ⟨(some 44), .len (.tmp 43), none⟩,
  ⟨(some 45), .call (.func 64) [(.tmp 42), (.tmp 44)], none⟩,
  ⟨(some 8), .mv (.tmp 45), none⟩])
 (.seq (.reg [⟨(some 46), .mv (.tmp 0), none⟩,
  ⟨(some 47), .call (.func 64) [(.tmp 46), (.const (.int .i64 40))], none⟩])
 (.block 2 (.seq (.reg [⟨(some 49), .bin .eql (.tmp 47) (.const (.int .i64 0)), none⟩,
  ⟨(some 48), .mv (.tmp 49), none⟩])
 (.cond (.tmp 48) (.reg [⟨(some 50), .mv (.tmp 3), none⟩,
  ⟨(some 51), .mv (.tmp 8), none⟩,
  ⟨(some 52), .mv (.tmp 0), none⟩,
  ⟨(some 53), .bsl 3 1 3 [(.int .i64 0), (.int .i64 0), (.int .i64 0)] [(0, 1, (.const (.int .i64 0))), (1, 1, (.const (.int .i64 20))), (2, 1, (.const (.int .i64 21)))], none⟩,
  ⟨(some 54), .call (.func 63) [(.tmp 52), (.tmp 53)], none⟩,
  ⟨(some 55), .iad 3 (.tmp 50) (.tmp 51), none⟩,
  ⟨(some 56), .fad 0 (.tmp 55), none⟩,
  ⟨none, .st 1 (.tmp 56) (.tmp 54), none⟩]) (.seq (.reg [⟨(some 58), .bin .eql (.tmp 47) (.const (.int .i64 1)), none⟩,
  ⟨(some 57), .mv (.tmp 58), none⟩])
 (.cond (.tmp 57) (.reg [⟨(some 59), .mv (.tmp 3), none⟩,
  ⟨(some 60), .mv (.tmp 8), none⟩,
  ⟨(some 61), .mv (.tmp 0), none⟩,
  ⟨(some 62), .bsl 3 1 3 [(.int .i64 0), (.int .i64 0), (.int .i64 0)] [(0, 1, (.const (.int .i64 0))), (1, 1, (.const (.int .i64 40))), (2, 1, (.const (.int .i64 41)))], none⟩,
  ⟨(some 63), .call (.func 63) [(.tmp 61), (.tmp 62)], none⟩,
  ⟨(some 64), .iad 3 (.tmp 59) (.tmp 60), none⟩,
  ⟨(some 65), .fad 1 (.tmp 64), none⟩,
  ⟨none, .st 1 (.tmp 65) (.tmp 63), none⟩]) (.seq (.reg [⟨(some 67), .bin .eql (.tmp 47) (.const (.int .i64 2)), none⟩,
  ⟨(some 66), .mv (.tmp 67), none⟩])
 (.cond (.tmp 66) (.reg [⟨(some 68), .mv (.tmp 3), none⟩,
  ⟨(some 69), .mv (.tmp 8), none⟩,
  ⟨(some 70), .mv (.tmp 0), none⟩,
  ⟨(some 71), .bsl 3 1 3 [(.int .i64 0), (.int .i64 0), (.int .i64 0)] [(0, 1, (.const (.int .i64 (-1)))), (1, 1, (.const (.int .i64 4))), (2, 1, (.const (.int .i64 5)))], none⟩,
  ⟨(some 72), .call (.func 63) [(.tmp 70), (.tmp 71)], none⟩,
  ⟨(some 73), .iad 3 (.tmp 68) (.tmp 69), none⟩,
  ⟨(some 74), .fad 2 (.tmp 73), none⟩,
  ⟨none, .st 1 (.tmp 74) (.tmp 72), none⟩]) (.skip)))))))))) (.skip)))
 (.seq (.reg [⟨(some 75), .mv (.tmp 3), none⟩,
  ⟨(some 2), .mv (.tmp 75), none⟩])
 (.ret)))))
def r_spec_l1Cur__parcels : List ARes := [.tmp 2]
theorem ok_spec_l1Cur__parcels : FnOk Try.prog 87 76 c_spec_l1Cur__parcels r_spec_l1Cur__parcels := ⟨⟨Try.f87, _, Try.func87, by kernel_rfl, rfl, rfl, by kernel_rfl, by kernel_rfl⟩⟩
def c_spec_DrawArrivalsOf : ACode := .seq (.reg [⟨(some 2), .mv (.const (.slice none 0 0)), none⟩])
 (.seq (.reg [⟨(some 4), .mv (.tmp 0), none⟩,
  ⟨(some 5), .bld [(.slice none 0 0), (.int .i64 0), (.int .u64 0)] [(0, 1, (.tmp 4))], none⟩,
  ⟨(some 6), .box 75 (.tmp 5), none⟩,
  ⟨(some 3), .mv (.tmp 6), none⟩])
 (.seq (.reg [⟨(some 7), .mv (.tmp 3), none⟩,
  ⟨(some 8), .call (.func 87) [(.tmp 7)], none⟩,
  ⟨(some 2), .mv (.tmp 8), none⟩])
 (.ret)))
def r_spec_DrawArrivalsOf : List ARes := [.tmp 2]
theorem ok_spec_DrawArrivalsOf : FnOk Try.prog 95 9 c_spec_DrawArrivalsOf r_spec_DrawArrivalsOf := ⟨⟨Try.f95, _, Try.func95, by kernel_rfl, rfl, rfl, by kernel_rfl, by kernel_rfl⟩⟩
def c_spec_l1Cur__next : ACode := .seq (.reg [⟨(some 2), .mv (.const (.int .i64 0)), none⟩])
 (.seq (.reg [⟨(some 3), .mv (.const (.int .i64 0)), none⟩])
 (.seq (.seq (.reg [⟨(some 4), .mv (.tmp 0), none⟩,
  ⟨(some 5), .nilc (.tmp 4), none⟩,
  ⟨(some 6), .fad 1 (.tmp 5), none⟩,
  ⟨(some 7), .ld none (.tmp 6), none⟩,
  ⟨(some 8), .mv (.tmp 0), none⟩,
  ⟨(some 9), .nilc (.tmp 8), none⟩,
  ⟨(some 10), .fad 0 (.tmp 9), none⟩,
  ⟨(some 11), .ld none (.tmp 10), none⟩,
  ⟨(some 12), .len (.tmp 11), none⟩,
  ⟨(some 13), .bin .lss (.tmp 7) (.tmp 12), none⟩])
 (.cond (.tmp 13) (.reg [⟨(some 14), .mv (.tmp 0), none⟩,
  ⟨(some 15), .nilc (.tmp 14), none⟩,
  ⟨(some 16), .fad 0 (.tmp 15), none⟩,
  ⟨(some 17), .ld none (.tmp 16), none⟩,
  ⟨(some 18), .mv (.tmp 0), none⟩,
  ⟨(some 19), .nilc (.tmp 18), none⟩,
  ⟨(some 20), .fad 1 (.tmp 19), none⟩,
  ⟨(some 21), .ld none (.tmp 20), none⟩,
  ⟨(some 22), .iad 1 (.tmp 17) (.tmp 21), none⟩,
  ⟨(some 23), .ld none (.tmp 22), none⟩,
  ⟨(some 24), .conv .i64 (.tmp 23), none⟩,
  ⟨(some 3), .mv (.tmp 24), none⟩]) (.skip)))
 (.seq (.reg [⟨(some 25), .mv (.tmp 0), none⟩,
  ⟨(some 26), .nilc (.tmp 25), none⟩,
  ⟨(some 27), .fad 1 (.tmp 26), none⟩,
  ⟨(some 28), .ld none (.tmp 27), none⟩,
  ⟨(some 29), .bin .add (.tmp 28) (.const (.int .i64 1)), none⟩,
  ⟨(some 30), .nilc (.tmp 25), none⟩,
  ⟨(some 31), .fad 1 (.tmp 30), none⟩,
  ⟨none, .st 1 (.tmp 31) (.tmp 29), none⟩])
 (.seq (.reg [⟨(some 32), .mv (.tmp 0), none⟩,
  ⟨(some 33), .mv (.tmp 0), none⟩,
  ⟨(some 34), .nilc (.tmp 33), none⟩,
  ⟨(some 35), .fad 2 (.tmp 34), none⟩,
  ⟨(some 36), .ld none (.tmp 35), none⟩,
  ⟨(some 37), .bin .mul (.tmp 36) (.const (.int .u64 6364136223846793005)), none⟩,
  ⟨(some 38), .mv (.tmp 3), none⟩,
  ⟨(some 39), .conv .u64 (.tmp 38), none⟩,
  ⟨(some 40), .bin .add (.tmp 37) (.tmp 39), none⟩,
  ⟨(some 41), .bin .add (.tmp 40) (.const (.int .u64 462197)), none⟩,
  ⟨(some 42), .nilc (.tmp 32), none⟩,
  ⟨(some 43), .fad 2 (.tmp 42), none⟩,
  ⟨none, .st 1 (.tmp 43) (.tmp 41), none⟩])
 (.seq (.seq (.reg [⟨(some 44), .mv (.tmp 0), none⟩,
  ⟨(some 45), .nilc (.tmp 44), none⟩,
  ⟨(some 46), .fad 1 (.tmp 45), none⟩,
  ⟨(some 47), .ld none (.tmp 46), none⟩,
  ⟨(some 48), .mv (.tmp 0), none⟩,
  ⟨(some 49), .nilc (.tmp 48), none⟩,
  ⟨(some 50), .fad 0 (.tmp 49), none⟩,
  ⟨(some 51), .ld none (.tmp 50), none⟩,
  ⟨(some 52), .len (.tmp 51), none⟩,
  ⟨(some 53), .bin .leq (.tmp 47) (.tmp 52), none⟩])
 (.cond (.tmp 53) (.seq (.reg [⟨(some 54), .mv (.tmp 3), none⟩,
  ⟨(some 2), .mv (.tmp 54), none⟩])
 (.ret)) (.skip)))
 (.seq (.reg [⟨(some 55), .mv (.tmp 0), none⟩,
  ⟨(some 56), .nilc (.tmp 55), none⟩,
  ⟨(some 57), .fad 2 (.tmp 56), none⟩,
  ⟨(some 58), .ld none (.tmp 57), none⟩,
  ⟨(some 59), .bin .shr (.tmp 58) (.const (.int .u64 40)), none⟩,
  ⟨(some 60), .bin .and (.tmp 59) (.const (.int .u64 255)), none⟩,
  ⟨(some 61), .conv .i64 (.tmp 60), none⟩,
  ⟨(some 2), .mv (.tmp 61), none⟩])
 (.ret)))))))
def r_spec_l1Cur__next : List ARes := [.tmp 2]
theorem ok_spec_l1Cur__next : FnOk Try.prog 110 62 c_spec_l1Cur__next r_spec_l1Cur__next := ⟨⟨Try.f110, _, Try.func110, by kernel_rfl, rfl, rfl, by kernel_rfl, by kernel_rfl⟩⟩
end Go.Proofs.Ytjdallbnbjnghaa.Ab
end
section
namespace Go.Proofs.Ytjdallbnbjnghaa.Ab
open Go Go.RowKit
set_option linter.unusedVariables false
set_option linter.unusedSimpArgs false
structure CurA (M : Mem) (cb : Nat) (l : List Int) (id : Nat) (at_ : Nat) : Prop where
  code : M[cb]? = some ⟨.ro, 5, l.map (Value.int .u8)⟩
  byte : ∀ x ∈ l, 0 ≤ x ∧ x ≤ 255
  few : l.length ≤ 65536
  box : ∃ seed : Nat × Int, M[id]? = some ⟨.own, 75, [.slice (some ⟨cb, 0, none⟩) l.length seed.1, .int .i64 (at_ : Int), .int .u64 seed.2]⟩
structure Cw (id : Nat) (m M : Mem) : Prop where
  len : m.length ≤ M.length
  old : ∀ i, i ≠ id → i < m.length → M[i]? = m[i]?
  new : ∀ (i : Nat) (b : Blk), m.length ≤ i → M[i]? = some b → b.kd ≠ .ro
theorem Cw.refl (id : Nat) (m : Mem) : Cw id m m := ⟨Nat.le_refl _, fun _ _ _ => rfl, fun i b h1 h2 => by rw [List.getElem?_eq_none h1] at h2; cases h2⟩
theorem Cw.set (id : Nat) (m : Mem) (b : Blk) : Cw id m (m.set id b) :=
  ⟨by simp, fun i h _ => List.getElem?_set_ne (Ne.symm h), fun i b h1 h2 => by rw [List.getElem?_eq_none (by simpa using h1)] at h2; cases h2⟩
theorem Cw.trans {id : Nat} {A B C : Mem} (hid : id < A.length) (h : Cw id A B) (h' : Cw id B C) : Cw id A C :=
  ⟨Nat.le_trans h.len h'.len, fun i h1 h2 => (h'.old i h1 (Nat.lt_of_lt_of_le h2 h.len)).trans (h.old i h1 h2), fun i b h1 h2 => by
    by_cases hb : B.length ≤ i
    · exact h'.new i b hb h2
    · by_cases e : i = id
      · exact absurd e (fun e => by omega)
      · rw [h'.old i e (by omega)] at h2; exact h.new i b h1 h2⟩
theorem nilcC (a : Addr) : nilcA (.pointer (some a)) = some (.pointer (some a)) := rfl
theorem and255A (x : Int) : 0 ≤ IntKind.i64.wrap (IntKind.u64.wrap ((BitVec.ofInt IntKind.u64.bits x &&& BitVec.ofInt IntKind.u64.bits 255).toNat : Int)) ∧ IntKind.i64.wrap (IntKind.u64.wrap ((BitVec.ofInt IntKind.u64.bits x &&& BitVec.ofInt IntKind.u64.bits 255).toNat : Int)) ≤ 255 := by
  obtain ⟨y, hy⟩ : ∃ y, y = (BitVec.ofInt IntKind.u64.bits x &&& BitVec.ofInt IntKind.u64.bits 255).toNat := ⟨_, rfl⟩
  have hle : y ≤ 255 := by
    rw [hy, BitVec.toNat_and]
    refine Nat.le_trans Nat.and_le_right ?_
    decide
  rw [← hy]
  have e1 : IntKind.u64.wrap (y : Int) = (y : Int) := by
    rw [IntKind.wrap_u64]
    omega
  rw [e1, w64 ⟨by omega, by omega⟩]
  omega
abbrev curB (cb n fl : Nat) (a : Int) (seed : Int) : Blk := ⟨.own, 75, [.slice (some ⟨cb, 0, none⟩) n fl, .int .i64 a, .int .u64 seed]⟩
theorem cur_rd {M : Mem} {id cb n fl : Nat} {a seed : Int} (hb : M[id]? = some (curB cb n fl a seed)) : rdc M id 0 = some (.slice (some ⟨cb, 0, none⟩) n fl) ∧ rdc M id 1 = some (.int .i64 a) ∧ rdc M id 2 = some (.int .u64 seed) := by
  refine ⟨?_, ?_, ?_⟩ <;> (unfold rdc; rw [hb]; rfl)
theorem cur_set {M : Mem} {id cb n fl : Nat} {a seed : Int} (hb : M[id]? = some (curB cb n fl a seed)) (a' seed' : Int) : (M.set id (curB cb n fl a' seed'))[id]? = some (curB cb n fl a' seed') := by
  rw [List.getElem?_set_self (List.getElem?_eq_some_iff.1 hb).1]
theorem next_ac (M : Mem) (cb id at_ : Nat) (l : List Int) (h : CurA M cb l id at_) (ha : at_ ≤ 1000000000) :
    AC Try.prog 110 [.pointer (some ⟨id, 0, none⟩)] M fun r M' => ∃ x : Int, r = .int .i64 x ∧ 0 ≤ x ∧ x ≤ 255 ∧ Cw id M M' ∧ CurA M' cb l id (at_ + 1) := by
  refine ac_of_run mixed ok_spec_l1Cur__next (by simp) (go_start _ _ _ ?_)
  obtain ⟨⟨fl, seed⟩, hb⟩ := h.box
  obtain ⟨r0, r1, r2⟩ := cur_rd hb
  have st1 : stA M id 1 [.int .i64 ((at_ : Int) + 1)] = some (M.set id (curB cb l.length fl ((at_ : Int) + 1) seed)) := stA_at hb (by simp) rfl
  have hb1 := cur_set hb ((at_ : Int) + 1) seed
  obtain ⟨M1, hM1⟩ : ∃ M1, M1 = M.set id (curB cb l.length fl ((at_ : Int) + 1) seed) := ⟨_, rfl⟩
  rw [← hM1] at st1 hb1
  obtain ⟨p0, p1, p2⟩ := cur_rd hb1
  have st2 : ∀ E : Int, stA M1 id 2 [.int .u64 E] = some (M1.set id (curB cb l.length fl ((at_ : Int) + 1) E)) := fun E => stA_at hb1 (by simp) rfl
  have s0 : ∀ E : Int, rdc (M1.set id (curB cb l.length fl ((at_ : Int) + 1) E)) id 0 = some (.slice (some ⟨cb, 0, none⟩) l.length fl) := fun E => (cur_rd (cur_set hb1 _ E)).1
  have s1 : ∀ E : Int, rdc (M1.set id (curB cb l.length fl ((at_ : Int) + 1) E)) id 1 = some (.int .i64 ((at_ : Int) + 1)) := fun E => (cur_rd (cur_set hb1 _ E)).2.1
  have s2 : ∀ E : Int, rdc (M1.set id (curB cb l.length fl ((at_ : Int) + 1) E)) id 2 = some (.int .u64 E) := fun E => (cur_rd (cur_set hb1 _ E)).2.2
  have hne : cb ≠ id := fun e => by have := h.code; rw [e, hb] at this; cases this
  have fin : ∀ E : Int, Cw id M (M1.set id (curB cb l.length fl ((at_ : Int) + 1) E)) ∧ CurA (M1.set id (curB cb l.length fl ((at_ : Int) + 1) E)) cb l id (at_ + 1) := fun E => by
    rw [hM1, List.set_set]
    refine ⟨Cw.set _ _ _, ⟨by rw [List.getElem?_set_ne (Ne.symm hne)]; exact h.code, h.byte, h.few, (fl, E), ?_⟩⟩
    rw [List.getElem?_set_self (List.getElem?_eq_some_iff.1 hb).1]
    simp
  by_cases hlt : (at_ : Int) < l.length
  · have ia : iadA 1 (.slice (some ⟨cb, 0, none⟩) l.length fl) (.int .i64 (at_ : Int)) = some (.pointer (some ⟨cb, at_, none⟩)) := by
      have := iadA_in (id := cb) (off := 0) (n := l.length) (fl := fl) (sz := 1) (k := .i64) (j := at_) (by omega)
      simpa using this
    have hx := h.byte (l.getD at_ 0) (by rw [List.getD_eq_getElem?_getD, List.getElem?_eq_getElem (by omega)]; exact List.getElem_mem _)
    have rx : rdc M cb at_ = some (.int .u8 (l.getD at_ 0)) := by
      unfold rdc
      rw [h.code]
      simp [List.getD_eq_getElem?_getD, List.getElem?_eq_getElem (show at_ < l.length by omega)]
    have hle : (at_ : Int) + 1 ≤ l.length := by omega
    have w1 : IntKind.i64.wrap (l.getD at_ 0) = l.getD at_ 0 := w64 ⟨by omega, by omega⟩
    simp (config := {implicitDefEqProofs := false, maxDischargeDepth := 20}) (disch := first | omega | (simp only [lenE]; done) | (simp only [lenE]; omega) | rfl | (simp only [lenE, markR_len]; done) | (simp only [lenE, markR_len]; omega)) only [runE, mapE, listE, initT_5, initT_6, initT_7, initT_8, resV, oneV, binA, unA, reduceCtorEq, Nat.reduceEqDiff, Nat.reduceAdd, Nat.reduceLT, Nat.reduceLeDiff, Nat.reduceMul, Nat.reduceSub, ↓reduceIte, decide_true, decide_false, Bool.true_eq_false, Bool.false_eq_true, Bool.not_true, Bool.not_false, if_true, if_false, and_true, true_and, memE, celE, w64, Nat.zero_add, Nat.add_zero, Nat.mul_one, putL, and_self, ldn, c_spec_l1Cur__next, r_spec_l1Cur__next, nilcC, r0, r1, r2, hlt, ia, rx, st1, p0, p1, p2, st2, s0, s1, s2, hle, w1]
    exact ⟨_, rfl, hx.1, hx.2, fin _⟩
  · have hle : ¬ ((at_ : Int) + 1 ≤ l.length) := by omega
    have h40 : ¬ ((40 : Int) < 0) := by decide
    simp (config := {implicitDefEqProofs := false, maxDischargeDepth := 20}) (disch := first | omega | (simp only [lenE]; done) | (simp only [lenE]; omega) | rfl | (simp only [lenE, markR_len]; done) | (simp only [lenE, markR_len]; omega)) only [runE, mapE, listE, initT_5, initT_6, initT_7, initT_8, resV, oneV, binA, unA, reduceCtorEq, Nat.reduceEqDiff, Nat.reduceAdd, Nat.reduceLT, Nat.reduceLeDiff, Nat.reduceMul, Nat.reduceSub, ↓reduceIte, decide_true, decide_false, Bool.true_eq_false, Bool.false_eq_true, Bool.not_true, Bool.not_false, if_true, if_false, and_true, true_and, memE, celE, w64, Nat.zero_add, Nat.add_zero, Nat.mul_one, putL, and_self, ldn, c_spec_l1Cur__next, r_spec_l1Cur__next, nilcC, r0, r1, r2, hlt, st1, p0, p1, p2, st2, s0, s1, s2, hle, h40]
    exact ⟨_, rfl, (and255A _).1, (and255A _).2, fin _⟩
theorem CurA.lt {M : Mem} {cb id a : Nat} {l : List Int} (h : CurA M cb l id a) : id < M.length := by
  obtain ⟨seed, hb⟩ := h.box
  exact (List.getElem?_eq_some_iff.1 hb).1
theorem pick_ac (M : Mem) (cb id a : Nat) (l : List Int) (n : Int) (h : CurA M cb l id a) (ha : a ≤ 999999998) (h1 : 1 ≤ n) (h2 : n ≤ 65536) :
    AC Try.prog 64 [.pointer (some ⟨id, 0, none⟩), .int .i64 n] M fun r M' => ∃ x : Int, r = .int .i64 x ∧ 0 ≤ x ∧ x < n ∧ Cw id M M' ∧ ∃ a', a' ≤ a + 2 ∧ CurA M' cb l id a' := by
  refine ac_of_run mixed ok_spec_l1Cur__pick (by simp) (go_start _ _ _ ?_)
  by_cases hn : n ≤ 1
  · simp (config := {implicitDefEqProofs := false, maxDischargeDepth := 20}) (disch := first | omega | (simp only [lenE]; done) | (simp only [lenE]; omega) | rfl | (simp only [lenE, markR_len]; done) | (simp only [lenE, markR_len]; omega)) only [runE, mapE, listE, initT_5, initT_6, initT_7, initT_8, resV, oneV, binA, unA, reduceCtorEq, Nat.reduceEqDiff, Nat.reduceAdd, Nat.reduceLT, Nat.reduceLeDiff, Nat.reduceMul, Nat.reduceSub, ↓reduceIte, decide_true, decide_false, Bool.true_eq_false, Bool.false_eq_true, Bool.not_true, Bool.not_false, if_true, if_false, and_true, true_and, memE, celE, w64, Nat.zero_add, Nat.add_zero, Nat.mul_one, putL, and_self, ldn, c_spec_l1Cur__pick, r_spec_l1Cur__pick, hn]
    exact ⟨0, rfl, by omega, by omega, Cw.refl _ _, a, by omega, h⟩
  · simp (config := {implicitDefEqProofs := false, maxDischargeDepth := 20}) (disch := first | omega | (simp only [lenE]; done) | (simp only [lenE]; omega) | rfl | (simp only [lenE, markR_len]; done) | (simp only [lenE, markR_len]; omega)) only [runE, mapE, listE, initT_5, initT_6, initT_7, initT_8, resV, oneV, binA, unA, reduceCtorEq, Nat.reduceEqDiff, Nat.reduceAdd, Nat.reduceLT, Nat.reduceLeDiff, Nat.reduceMul, Nat.reduceSub, ↓reduceIte, decide_true, decide_false, Bool.true_eq_false, Bool.false_eq_true, Bool.not_true, Bool.not_false, if_true, if_false, and_true, true_and, memE, celE, w64, Nat.zero_add, Nat.add_zero, Nat.mul_one, putL, and_self, ldn, c_spec_l1Cur__pick, r_spec_l1Cur__pick, hn]
    refine callH_ac (next_ac M cb id a l h (by omega)) ?_
    rintro r M1 ⟨x, rfl, x0, x1, w1, k1⟩
    have hn0 : ¬ (n = 0) := by omega
    by_cases hb : n > 200
    · simp (config := {implicitDefEqProofs := false, maxDischargeDepth := 20}) (disch := first | omega | (simp only [lenE]; done) | (simp only [lenE]; omega) | rfl | (simp only [lenE, markR_len]; done) | (simp only [lenE, markR_len]; omega)) only [runE, mapE, listE, initT_5, initT_6, initT_7, initT_8, resV, oneV, binA, unA, reduceCtorEq, Nat.reduceEqDiff, Nat.reduceAdd, Nat.reduceLT, Nat.reduceLeDiff, Nat.reduceMul, Nat.reduceSub, ↓reduceIte, decide_true, decide_false, Bool.true_eq_false, Bool.false_eq_true, Bool.not_true, Bool.not_false, if_true, if_false, and_true, true_and, memE, celE, w64, Nat.zero_add, Nat.add_zero, Nat.mul_one, putL, and_self, ldn, hb]
      refine callH_ac (next_ac M1 cb id (a + 1) l k1 (by omega)) ?_
      rintro r M2 ⟨y, rfl, y0, y1, w2, k2⟩
      have e1 : IntKind.i64.wrap (x * 256) = x * 256 := w64 ⟨by omega, by omega⟩
      have e2 : IntKind.i64.wrap (x * 256 + y) = x * 256 + y := w64 ⟨by omega, by omega⟩
      simp (config := {implicitDefEqProofs := false, maxDischargeDepth := 20}) (disch := first | omega | (simp only [lenE]; done) | (simp only [lenE]; omega) | rfl | (simp only [lenE, markR_len]; done) | (simp only [lenE, markR_len]; omega)) only [runE, mapE, listE, initT_5, initT_6, initT_7, initT_8, resV, oneV, binA, unA, reduceCtorEq, Nat.reduceEqDiff, Nat.reduceAdd, Nat.reduceLT, Nat.reduceLeDiff, Nat.reduceMul, Nat.reduceSub, ↓reduceIte, decide_true, decide_false, Bool.true_eq_false, Bool.false_eq_true, Bool.not_true, Bool.not_false, if_true, if_false, and_true, true_and, memE, celE, w64, Nat.zero_add, Nat.add_zero, Nat.mul_one, putL, and_self, ldn, e1, e2, hn0]
      exact ⟨_, rfl, Int.tmod_nonneg _ (by omega), Int.tmod_lt_of_pos _ (by omega), w1.trans h.lt w2, a + 1 + 1, by omega, k2⟩
    · simp (config := {implicitDefEqProofs := false, maxDischargeDepth := 20}) (disch := first | omega | (simp only [lenE]; done) | (simp only [lenE]; omega) | rfl | (simp only [lenE, markR_len]; done) | (simp only [lenE, markR_len]; omega)) only [runE, mapE, listE, initT_5, initT_6, initT_7, initT_8, resV, oneV, binA, unA, reduceCtorEq, Nat.reduceEqDiff, Nat.reduceAdd, Nat.reduceLT, Nat.reduceLeDiff, Nat.reduceMul, Nat.reduceSub, ↓reduceIte, decide_true, decide_false, Bool.true_eq_false, Bool.false_eq_true, Bool.not_true, Bool.not_false, if_true, if_false, and_true, true_and, memE, celE, w64, Nat.zero_add, Nat.add_zero, Nat.mul_one, putL, and_self, ldn, hb, hn0]
      exact ⟨_, rfl, Int.tmod_nonneg _ (by omega), Int.tmod_lt_of_pos _ (by omega), w1, a + 1, by omega, k1⟩
theorem among_ac (M : Mem) (cb id a : Nat) (l : List Int) (u : Value) (xs : List Int) (h : CurA M cb l id a) (ha : a ≤ 999999998) (h0 : IntsA M u xs) (hk : ∀ M', Cw id M M' → IntsA M' u xs) (h1 : 1 ≤ xs.length) (h2 : xs.length ≤ 1000) :
    AC Try.prog 63 [.pointer (some ⟨id, 0, none⟩), u] M fun r M' => ∃ x ∈ xs, r = .int .i64 x ∧ Cw id M M' ∧ ∃ a', a' ≤ a + 2 ∧ CurA M' cb l id a' := by
  refine ac_of_run mixed ok_spec_l1Cur__among (by simp) (go_start _ _ _ ?_)
  simp (config := {implicitDefEqProofs := false, maxDischargeDepth := 20}) (disch := first | omega | (simp only [lenE]; done) | (simp only [lenE]; omega) | rfl | (simp only [lenE, markR_len]; done) | (simp only [lenE, markR_len]; omega)) only [runE, mapE, listE, initT_5, initT_6, initT_7, initT_8, resV, oneV, binA, unA, reduceCtorEq, Nat.reduceEqDiff, Nat.reduceAdd, Nat.reduceLT, Nat.reduceLeDiff, Nat.reduceMul, Nat.reduceSub, ↓reduceIte, decide_true, decide_false, Bool.true_eq_false, Bool.false_eq_true, Bool.not_true, Bool.not_false, if_true, if_false, and_true, true_and, memE, celE, w64, Nat.zero_add, Nat.add_zero, Nat.mul_one, putL, and_self, ldn, c_spec_l1Cur__among, r_spec_l1Cur__among, h0.len]
  refine callH_ac (pick_ac M cb id a l (xs.length : Int) h ha (by omega) (by omega)) ?_
  rintro r M1 ⟨x, rfl, x0, x1, w1, k1⟩
  obtain ⟨j, rfl⟩ : ∃ j : Nat, x = (j : Int) := ⟨x.toNat, by omega⟩
  have i1 := hk M1 w1
  simp (config := {implicitDefEqProofs := false, maxDischargeDepth := 20}) (disch := first | omega | (simp only [lenE]; done) | (simp only [lenE]; omega) | rfl | (simp only [lenE, markR_len]; done) | (simp only [lenE, markR_len]; omega)) only [runE, mapE, listE, initT_5, initT_6, initT_7, initT_8, resV, oneV, binA, unA, reduceCtorEq, Nat.reduceEqDiff, Nat.reduceAdd, Nat.reduceLT, Nat.reduceLeDiff, Nat.reduceMul, Nat.reduceSub, ↓reduceIte, decide_true, decide_false, Bool.true_eq_false, Bool.false_eq_true, Bool.not_true, Bool.not_false, if_true, if_false, and_true, true_and, memE, celE, w64, Nat.zero_add, Nat.add_zero, Nat.mul_one, putL, and_self, ldn, i1.at_ j (by omega), i1.ld j (by omega)]
  refine ⟨xs.getD j 0, ?_, rfl, w1, k1⟩
  rw [List.getD_eq_getElem?_getD, List.getElem?_eq_getElem (by omega)]
  exact List.getElem_mem _
theorem Cw.own {id b : Nat} {M M' : Mem} {xs : List Int} (h : Cw id M M') (ho : OwnR M b xs) (hne : b ≠ id) : OwnR M' b xs := (h.old b hne ho.lt).trans ho
end Go.Proofs.Ytjdallbnbjnghaa.Ab
end
section
namespace Go.Proofs.Ytjdallbnbjnghaa
open Go.RowKit
def Rd (w : World) (B : Nat) (A : Option Addr) (xs : List Value) : Prop :=
  0 < xs.length → ∃ b off, A = some ⟨b, off, none⟩ ∧ b < B ∧ ∀ (k : Nat) (u : Value), xs[k]? = some u → w.cell? ⟨b, off + k, none⟩ = some u

theorem Rd.at_ {w : World} {B : Nat} {A : Option Addr} {xs : List Value} (h : Rd w B A xs) {k : Nat} {u : Value} (hk : xs[k]? = some u) :
    ∃ b off, A = some ⟨b, off, none⟩ ∧ b < B ∧ w.cell? ⟨b, off + k, none⟩ = some u := by
  obtain ⟨hl, _⟩ := List.getElem?_eq_some_iff.1 hk
  obtain ⟨b, off, e, hb, hc⟩ := h (by omega)
  exact ⟨b, off, e, hb, hc k u hk⟩
theorem Rd.nil (w : World) (B : Nat) (A : Option Addr) : Rd w B A [] := fun h => absurd h (by simp)
theorem Rd.keep {w w' : World} {B : Nat} {A : Option Addr} {xs : List Value} (h : Rd w B A xs) (hk : ∀ p : Addr, p.block < B → w'.cell? p = w.cell? p) : Rd w' B A xs := by
  intro hl
  obtain ⟨b, off, e, hb, hc⟩ := h hl
  exact ⟨b, off, e, hb, fun k u hu => (hk ⟨b, off + k, none⟩ hb).trans (hc k u hu)⟩
theorem Rd.below {w w' : World} {B : Nat} {A : Option Addr} {xs : List Value} (h : Rd w B A xs) (hb : Below B w w') : Rd w' B A xs :=
  h.keep fun _ hp => hb.cell hp
theorem Rd.drewN {w : World} {B : Nat} {A : Option Addr} {xs : List Value} (h : Rd w B A xs) (n : Nat) : Rd (w.drewN n) B A xs := h
theorem Rd.more {w : World} {B B' : Nat} {A : Option Addr} {xs : List Value} (h : Rd w B A xs) (hB : B ≤ B') : Rd w B' A xs := by
  intro hl
  obtain ⟨b, off, e, hb, hc⟩ := h hl
  exact ⟨b, off, e, by omega, hc⟩
theorem Rd.own {w : World} {base : Nat} {e : TypeId} {A : Option Addr} {n c : Nat} {xs : List Value} (h : w.ownsRow base e 1 (.slice A n c) n xs) : Rd w w.heap.size A xs := by
  intro hl
  obtain ⟨hn, h2⟩ := h
  rcases h2 with ⟨h0, rfl⟩ | ⟨g, cap, cur, hv, hb, hg, _, _, _, ht⟩
  · omega
  · simp only [Value.slice.injEq] at hv
    obtain ⟨rfl, _, _⟩ := hv
    refine ⟨g, 0, rfl, (Array.getElem?_eq_some_iff.1 hg).1, fun k u hu => ?_⟩
    rw [Nat.zero_add, cell_of_row w g k cur e (0, 0) hg]
    rw [← ht, List.getElem?_take] at hu
    split at hu
    · simpa using hu
    · cases hu
theorem below_drewN (B : Nat) (w : World) (n : Nat) : Below B w (w.drewN n) := ⟨rfl, rfl, rfl, Nat.le_refl _, fun _ _ => rfl⟩
def Drew (w w' : World) : Prop := ∃ n, w' = w.drewN n
theorem Drew.refl (w : World) : Drew w w := ⟨0, rfl⟩
theorem Drew.step {w w' : World} (h : Drew w w') (n : Nat) : Drew w (w'.drewN n) := by
  obtain ⟨k, rfl⟩ := h; exact ⟨k + n, by rw [World.drewN_drewN]⟩
theorem Drew.trans {w w' w2 : World} (h : Drew w w') (h2 : Drew w' w2) : Drew w w2 := by
  obtain ⟨k, rfl⟩ := h2; exact h.step k
theorem Drew.cell {w w' : World} (h : Drew w w') (p : Addr) : w'.cell? p = w.cell? p := by
  obtain ⟨k, rfl⟩ := h; rfl
theorem Drew.size {w w' : World} (h : Drew w w') : w'.heap.size = w.heap.size := by
  obtain ⟨k, rfl⟩ := h; rfl
theorem Drew.below {w w' : World} (h : Drew w w') (B : Nat) : Below B w w' := by
  obtain ⟨k, rfl⟩ := h; exact below_drewN B w k
theorem Drew.own {w w' : World} (h : Drew w w') {base : Nat} {e : TypeId} {size n : Nat} {v : Value} {xs : List Value} (ho : w.ownsRow base e size v n xs) : w'.ownsRow base e size v n xs := by
  obtain ⟨k, rfl⟩ := h; exact ho
end Go.Proofs.Ytjdallbnbjnghaa
end
section
namespace Go.Proofs.Ytjdallbnbjnghaa
open Go.RowKit
set_option linter.unusedVariables false
structure Kept (lo hi : Nat) (w w' : World) : Prop where
  os : w'.os = w.os
  tape : w'.tape = w.tape
  output : w'.output = w.output
  size : w.heap.size ≤ w'.heap.size
  block : ∀ k, k < w.heap.size → (k < lo ∨ hi ≤ k) → w'.heap[k]? = w.heap[k]?
theorem Kept.refl (lo hi : Nat) (w : World) : Kept lo hi w w := ⟨rfl, rfl, rfl, Nat.le_refl _, fun _ _ _ => rfl⟩
theorem Kept.trans {lo hi : Nat} {a b c : World} (h : Kept lo hi a b) (h2 : Kept lo hi b c) : Kept lo hi a c :=
  ⟨h2.os.trans h.os, h2.tape.trans h.tape, h2.output.trans h.output, Nat.le_trans h.size h2.size, fun k hk hr => (h2.block k (Nat.lt_of_lt_of_le hk h.size) hr).trans (h.block k hk hr)⟩
theorem Kept.below {lo hi B : Nat} {w w' : World} (h : Kept lo hi w w') (h1 : B ≤ lo) (h2 : B ≤ w.heap.size) : Below B w w' :=
  ⟨h.os, h.tape, h.output, h.size, fun k hk => h.block k (by omega) (.inl (by omega))⟩
theorem Kept.set {lo hi : Nat} {w : World} {b off : Nat} (h1 : lo ≤ b) (h2 : b < hi) (v : Value) : Kept lo hi w (w.setCell ⟨b, off, none⟩ v) := by
  have h0 := (Below.refl lo w).setCell (p := ⟨b, off, none⟩) h1 v
  exact ⟨h0.os, h0.tape, h0.output, h0.size, fun k hk hr => Below.heap_setCell w _ v k (by show k ≠ b; omega)⟩

def IntsIn (w : World) (v : Value) (l : List Int) : Prop :=
  ∃ A c, v = .slice A l.length c ∧ l.length ≤ c ∧ c ≤ maxLen ∧ Rd w w.heap.size A (l.map (Value.int .i64))
theorem IntsIn.below {w w' : World} {v : Value} {l : List Int} (h : IntsIn w v l) (hb : Below w.heap.size w w') : IntsIn w' v l := by
  obtain ⟨A, c, h1, h2, h3, h4⟩ := h
  exact ⟨A, c, h1, h2, h3, (h4.below hb).more hb.size⟩
theorem IntsIn.nil (w : World) (c : Nat) (A : Option Addr) (h : c ≤ maxLen) : IntsIn w (.slice A 0 c) [] := ⟨A, c, rfl, Nat.zero_le _, h, Rd.nil _ _ _⟩

def OwnInts (w : World) (lo hi : Nat) (v : Value) (l : List Int) : Prop :=
  w.ownsRow lo 3 1 v l.length (l.map (Value.int .i64)) ∧ ∀ g, v.ownBlock = some g → g < hi
theorem OwnInts.form {w : World} {lo hi : Nat} {v : Value} {l : List Int} (h : OwnInts w lo hi v l) :
    ∃ A c, v = .slice A l.length c ∧ l.length ≤ c ∧ c ≤ maxLen := by
  rcases h.1.2 with ⟨rfl, h0⟩ | ⟨g, cap, cur, rfl, _, _, h1, h2, _⟩
  · exact ⟨none, 0, by rw [h0], by omega, Nat.zero_le _⟩
  · exact ⟨_, _, rfl, h1, h2⟩
theorem OwnInts.ints {w : World} {lo hi : Nat} {v : Value} {l : List Int} (h : OwnInts w lo hi v l) : IntsIn w v l := by
  obtain ⟨A, c, rfl, h1, h2⟩ := h.form
  exact ⟨A, c, rfl, h1, h2, Rd.own h.1⟩
theorem own_rest {w w' : World} {base : Nat} {e : TypeId} {size n : Nat} {v : Value} {xs : List Value} (h : w.ownsRow base e size v n xs) (hb : ∀ g, v.ownBlock = some g → w'.heap[g]? = w.heap[g]?) : w'.ownsRow base e size v n xs := by
  refine ⟨h.1, ?_⟩
  rcases h.2 with hn | ⟨g, cap, cur, rfl, hbg, hgg, rest⟩
  · exact .inl hn
  · exact .inr ⟨g, cap, cur, rfl, hbg, (hb g rfl).trans hgg, rest⟩
theorem own_block {w : World} {base : Nat} {e : TypeId} {size n : Nat} {v : Value} {xs : List Value} (h : w.ownsRow base e size v n xs) : ∀ g, v.ownBlock = some g → base ≤ g ∧ g < w.heap.size := by
  intro k hk
  rcases h.2 with ⟨rfl, rfl⟩ | ⟨g, cap, cur, rfl, hb, hg, _⟩
  · cases hk
  · simp only [Value.ownBlock, Option.some.injEq] at hk
    subst hk
    exact ⟨hb, (Array.getElem?_eq_some_iff.1 hg).1⟩
theorem OwnInts.below {w w' : World} {lo hi B : Nat} {v : Value} {l : List Int} (h : OwnInts w lo hi v l) (hb : Below B w w') (hd : hi ≤ B) : OwnInts w' lo hi v l :=
  ⟨own_rest h.1 fun g hg => by
    have h2 := h.2 g hg
    exact hb.block g (by omega), h.2⟩
theorem OwnInts.now {w : World} {lo : Nat} {v : Value} {l : List Int} (h : w.ownsRow lo 3 1 v l.length (l.map (Value.int .i64))) : OwnInts w lo w.heap.size v l :=
  ⟨h, fun g hg => (own_block h g hg).2⟩
end Go.Proofs.Ytjdallbnbjnghaa
end
section
namespace Go.Proofs.Ytjdallbnbjnghaa
open Go.ChangeShapes Go.WideShapes Go.ChangeAt Go.RowKit
set_option linter.unusedVariables false
theorem own : ownKnob Try.prog.godebug = none := by kernel_rfl
theorem laidOut : laidOutB Try.prog = true := by kernel_rfl

theorem trodAll_below {H : Type} {enc : TypeId × Value → H} {P : Program} (hl : laidOutB P = true) {W W' : World} (hb : Below W.heap.size W W') :
    ∀ {ts : List TypeId} {vs : List Value} {ds : List (DataW H)} {ps : List MemPlace}, ts.all (fun t => P.readableRec t && decide (t < P.types.size)) = true →
      (∀ x ∈ ps, x.block < W.heap.size) → DataW.TrodAll enc P W 0 (fun _ => true) true ts vs ds ps →
      DataW.TrodAll enc P W' 0 (fun b => decide (b < W.heap.size)) true ts vs ds ps
  | [], [], [], ps, _, _, h => h
  | t :: ts, v :: vs, d :: ds, ps, hr, hp, h => by
    obtain ⟨p, q, h1, h2, rfl⟩ := h
    simp only [List.all_cons, Bool.and_eq_true, decide_eq_true_eq] at hr
    exact ⟨p, q, Below.trod hl hr.1.1 hr.1.2 h1 hb (fun x hx => hp x (by simp [hx])),
      trodAll_below hl hb hr.2 (fun x hx => hp x (by simp [hx])) h2, rfl⟩
  | [], _ :: _, _, _, _, _, h => h.elim
  | [], [], _ :: _, _, _, _, h => h.elim
  | _ :: _, [], _, _, _, _, h => h.elim
  | _ :: _, _ :: _, [], _, _, _, h => h.elim

theorem trodAll_len {H : Type} {enc : TypeId × Value → H} {P : Program} {W : World} {base : Nat} {sp : Nat → Bool} {hd : Bool} :
    ∀ {ts : List TypeId} {vs : List Value} {ds : List (DataW H)} {ps : List MemPlace}, DataW.TrodAll enc P W base sp hd ts vs ds ps → ds.length = ts.length
  | [], [], [], _, _ => rfl
  | _ :: _, _ :: _, _ :: _, _, h => by
    obtain ⟨_, _, _, h2, _⟩ := h
    simp [trodAll_len h2]
  | [], _ :: _, _, _, h => h.elim
  | [], [], _ :: _, _, h => h.elim
  | _ :: _, [], _, _, h => h.elim
  | _ :: _, _ :: _, [], _, h => h.elim

theorem law_post {H : Type} {enc : TypeId × Value → H} {P : Program} {f : Func} {s : ChangeSpec} {W W' : World} {args : Array Value} {ds gs : List (DataW H)} {before : List MemPlace} {tb : TypeId}
    (hl : laidOutB P = true) (hr : f.params.toList.all (fun t => P.readableRec t && decide (t < P.types.size)) = true)
    (hres : f.resultTypes = #[tb]) (htb : P.underlying tb = some .bool) (hv : s.vars = [])
    (hfn : ∀ xs : List (DataW H), xs.length = f.params.toList.length → s.fn H xs = { results := [.lit (.bool true)], args := xs })
    (hW : DataW.Whole enc P f.params.toList s.vars false W args.toList ds gs before) (hb : Below W.heap.size W W') :
    s.post enc P f false true false false W args (.bool true) W' := by
  have hW' := hW
  obtain ⟨p, q, hA, hV, rfl, hfz, hnd⟩ := hW
  rw [hv] at hV
  obtain ⟨rfl, rfl⟩ := trodVars_none hV
  have hlen := trodAll_len hA
  have hlt : ∀ x ∈ p, x.block < W.heap.size := fun x hx => by simpa using hW'.lt x (by simp [hx])
  have e : s.fn H (ds ++ []) = { results := [.lit (.bool true)], args := ds } := by rw [List.append_nil]; exact hfn ds hlen
  refine ⟨ds, [], p ++ [], [], p, [], hW', ?_, ?_, ?_, hb.frame _, fun h => by cases h⟩
  · rw [e, hres]; exact trodAll_mk1 (shut_bool htb _)
  · rw [e]; exact trodAll_below hl hb hr hlt hA
  · rw [e, hv]; exact rfl
end Go.Proofs.Ytjdallbnbjnghaa
end
section
namespace Go.Proofs.Ytjdallbnbjnghaa
open Go.ChangeShapes Go.WideShapes Go.ChangeAt Go.RowKit
open Go.WideMaps Go.WideElems
set_option linter.unusedVariables false
theorem cell_block {w : World} {p : Addr} {v : Value} (h : w.cell? p = some v) : p.block < w.heap.size := by
  rcases Nat.lt_or_ge p.block w.heap.size with hlt | hge
  · exact hlt
  · have hn : w.heap[p.block]? = none := Array.getElem?_eq_none hge
    simp [World.cell?, hn] at h

theorem rd_of {w : World} {a : Addr} {xs : List Value} (h : ∀ (i : Nat) (u : Value), xs[i]? = some u → w.cell? (a.add i) = some u) : Rd w w.heap.size (some a) xs := by
  intro hl
  obtain ⟨b, off, spot⟩ := a
  have h0 := h 0 _ (List.getElem?_eq_getElem hl)
  have hspot : spot = none := by simpa [Addr.add] using World.cell?_spot h0
  subst hspot
  exact ⟨b, off, rfl, cell_block h0, fun k u hu => by rw [← Go.WideShapes.add_plain]; exact h k u hu⟩

end Go.Proofs.Ytjdallbnbjnghaa
end
section
namespace Go.Proofs.Ytjdallbnbjnghaa
open Go.RowKit Go.ChangeShapes
open Go.WideMaps Go.WideElems Go.WideShapes Go.ChangeAt
set_option linter.unusedVariables false
theorem open_ints_rd {H : Type} {enc : TypeId × Value → H} {P : Program} {W : World} {base : Nat} {t e : TypeId} {k : IntKind} {v : Value} {d : DataW H} {ps : List MemPlace}
    (ht : P.underlying t = some (.slice e)) (he : P.underlying e = some (.int k)) (hc : P.cellsOf e = 1)
    (hval : Value.okWide P W .any base t v) (h : DataW.Trod enc P W 0 (fun _ => true) true t v d ps) :
    ∃ (A : Option Addr) (l : List Int) (c : Nat), v = .slice A l.length c ∧ Rd W W.heap.size A (l.map (Value.int k)) ∧ l.length ≤ c ∧ c ≤ maxLen ∧ ∀ n ∈ l, k.min ≤ n ∧ n ≤ k.max := by
  obtain ⟨a0, len, cap, rfl⟩ := okWide_slice ht hval
  obtain ⟨fuel, hf⟩ := h
  rcases Go.ChangeShapes.open_ints ht he hc hf with ⟨hcs, _⟩ | ⟨a, len', cap', zs, hcs, _, hl, hm, hz, _, hcell, hwf⟩
  · simp [Value.cells] at hcs
    obtain ⟨rfl, rfl, rfl⟩ := hcs
    exact ⟨none, [], 0, rfl, Rd.nil _ _ _, Nat.le_refl _, Nat.zero_le _, fun s hs => by cases hs⟩
  · simp [Value.cells] at hcs
    obtain ⟨rfl, rfl, rfl⟩ := hcs
    simp only [if_true] at hz
    have hlen : (zs.take len).length = len := by rw [List.length_take]; omega
    refine ⟨some a, zs.take len, cap, by rw [hlen], rd_of fun i u hu => ?_, by rw [hlen]; exact hl, hm, fun s hs => by
      have := hwf s (List.mem_of_mem_take hs)
      simpa [Lit.wf] using this⟩
    rw [List.getElem?_map, List.getElem?_take] at hu
    by_cases hi : i < len
    · rw [if_pos hi] at hu
      have hi2 : i < zs.length := by omega
      rw [hcell i hi2]
      rw [List.getElem?_eq_getElem hi2] at hu
      rw [List.getD_eq_getElem?_getD, List.getElem?_eq_getElem hi2]
      simpa using hu
    · rw [if_neg hi] at hu; cases hu
end Go.Proofs.Ytjdallbnbjnghaa
end
section
namespace Go.Proofs.Ytjdallbnbjnghaa
open Go.RowKit Go.ChangeShapes Go.WideShapes Go.ChangeAt
open Go.WideMaps Go.WideElems
set_option linter.unusedVariables false
def CaseIn (w : World) (v : Value) (k : Cs) : Prop :=
  ∃ v1 v2 v3 v4, v = .agg #[v1, v2, v3, v4] ∧ IntsIn w v1 k.need ∧ IntsIn w v2 k.setup ∧ IntsIn w v3 k.unit ∧ IntsIn w v4 k.hold
theorem CaseIn.below {w w' : World} {v : Value} {k : Cs} (h : CaseIn w v k) (hb : Below w.heap.size w w') : CaseIn w' v k := by
  obtain ⟨v1, v2, v3, v4, h0, h1, h2, h3, h4⟩ := h
  exact ⟨v1, v2, v3, v4, h0, h1.below hb, h2.below hb, h3.below hb, h4.below hb⟩
def OwnCase (w : World) (lo hi : Nat) (v : Value) (k : Cs) : Prop :=
  ∃ v1 v2 v3 v4 m1 m2 m3, v = .agg #[v1, v2, v3, v4] ∧ lo ≤ m1 ∧ m1 ≤ m2 ∧ m2 ≤ m3 ∧ m3 ≤ hi ∧ OwnInts w lo m1 v1 k.need ∧ OwnInts w m1 m2 v2 k.setup ∧ OwnInts w m2 m3 v3 k.unit ∧ OwnInts w m3 hi v4 k.hold
theorem OwnCase.ints {w : World} {lo hi : Nat} {v : Value} {k : Cs} (h : OwnCase w lo hi v k) : CaseIn w v k := by
  obtain ⟨v1, v2, v3, v4, m1, m2, m3, h0, _, _, _, _, h1, h2, h3, h4⟩ := h
  exact ⟨v1, v2, v3, v4, h0, h1.ints, h2.ints, h3.ints, h4.ints⟩
theorem OwnCase.below {w w' : World} {lo hi B : Nat} {v : Value} {k : Cs} (h : OwnCase w lo hi v k) (hb : Below B w w') (hd : hi ≤ B) : OwnCase w' lo hi v k := by
  obtain ⟨v1, v2, v3, v4, m1, m2, m3, h0, a, b, c, d, h1, h2, h3, h4⟩ := h
  exact ⟨v1, v2, v3, v4, m1, m2, m3, h0, a, b, c, d, h1.below hb (by omega), h2.below hb (by omega), h3.below hb (by omega), h4.below hb (by omega)⟩
theorem OwnCase.le {w : World} {lo hi : Nat} {v : Value} {k : Cs} (h : OwnCase w lo hi v k) : lo ≤ hi := by
  obtain ⟨v1, v2, v3, v4, m1, m2, m3, h0, a, b, c, d, _⟩ := h
  omega

end Go.Proofs.Ytjdallbnbjnghaa
end
section
namespace Go.Proofs.Ytjdallbnbjnghaa.Ab
open Go Go.RowKit
set_option linter.unusedVariables false
set_option linter.unusedSimpArgs false
theorem tab_none {base : Nat} {W : World} (h : tabB = none) : TabOk base W := fun g vs hg => by rw [h] at hg; cases hg
theorem MRel.start (W : World) (ht : TabOk W.heap.size W := by exact tab_none rfl) : MRel W W.heap.size [] [] W :=
  ⟨rfl, Below.refl _ _, Nat.le_refl _, fun id e xs h => by simp at h, fun id e xs h => by simp at h, fun i j e1 e2 xs ys b1 o1 t1 b2 o2 t2 hij h => by simp at h, ⟨fun id e es h => by simp at h, fun i j e1 e2 xs ys b1 o1 t1 b2 o2 t2 hij h => by simp at h⟩, Oth.refl _, ht⟩
theorem MRel.addRo {W0 : World} {base : Nat} {ρ : Places} {m : Mem} {w : World} (h : MRel W0 base ρ m w) {e : TypeId} {xs : List Value} {b o tot : Nat}
    (hg : ∀ (k : Nat) (x : Value), xs[k]? = some x → b < base ∧ ∃ y, w.cell? ⟨b, o + k, none⟩ = some y ∧ VR ρ x y) : MRel W0 base (ρ ++ [(b, o, tot)]) (m ++ [⟨.ro, e, xs⟩]) w := by
  have hpre := pre_snoc ρ (b, o, tot)
  refine ⟨by simp [h.len], h.below, h.le, ?_, ?_, ?_, h.maps.step hpre (fun id e es hm => by
    rcases at_app hm with ⟨_, hm⟩ | ⟨_, he⟩
    · exact hm
    · cases he) fun _ _ _ _ h => h, h.oth, h.tab⟩
  · intro id e' xs' hm
    rcases at_app hm with ⟨hi, hm⟩ | ⟨hi, he⟩
    · obtain ⟨b', o', tot', hp, hc⟩ := h.ro id e' xs' hm
      exact ⟨b', o', tot', pre_at hpre hp, fun k x hx => by obtain ⟨h1, y, hy, hv⟩ := hc k x hx; exact ⟨h1, y, hy, hv.mono hpre⟩⟩
    · cases he
      exact ⟨b, o, tot, by rw [hi, ← h.len]; simp, fun k x hx => by obtain ⟨h1, y, hy, hv⟩ := hg k x hx; exact ⟨h1, y, hy, hv.mono hpre⟩⟩
  · intro id e' xs' hm
    rcases at_app hm with ⟨hi, hm⟩ | ⟨hi, he⟩
    · obtain ⟨b', tot', hp, hl, hc⟩ := h.own id e' xs' hm
      refine ⟨b', tot', pre_at hpre hp, hl, fun ht => ?_⟩
      obtain ⟨h1, cur', hg', hs, hcur⟩ := hc ht
      exact ⟨h1, cur', hg', hs, fun k x hx => by obtain ⟨y, hy, hv⟩ := hcur k x hx; exact ⟨y, hy, hv.mono hpre⟩⟩
    · cases he
  · intro i j e1 e2 xs1 xs2 b1 o1 t1 b2 o2 t2 hij h1 h2 hp1 hp2 ht1 ht2
    have old : ∀ (i : Nat) (p : Nat × Nat × Nat), i < m.length → (ρ ++ [(b, o, tot)])[i]? = some p → ρ[i]? = some p := by
      intro i p hi hp
      rw [List.getElem?_append_left (by rw [h.len]; exact hi)] at hp
      exact hp
    rcases at_app h1 with ⟨hi1, hm1⟩ | ⟨hi1, he1⟩
    · rcases at_app h2 with ⟨hi2, hm2⟩ | ⟨hi2, he2⟩
      · exact h.apart i j e1 e2 xs1 xs2 b1 o1 t1 b2 o2 t2 hij hm1 hm2 (old i _ hi1 hp1) (old j _ hi2 hp2) ht1 ht2
      · cases he2
    · cases he1
theorem IntsIn.bd {W : World} {v : Value} {l : List Int} (h : IntsIn W v l) : l.length ≤ 9223372036854775807 := by
  obtain ⟨A, c, _, h1, h2, _⟩ := h
  unfold maxLen at h2; omega
theorem law_calls {P : Program} {f : FuncId} {xs : List Value} {m : Mem} {ρ : Places} {W : World} {cargs : List Value} (h : AC P f xs m fun v _ => v = .bool true) (hm : MRel W W.heap.size ρ m W) (hv : VL ρ xs cargs) :
    Calls P f cargs.toArray W fun e w' => e = .returned (.bool true) ∧ Below W.heap.size W w' := by
  refine (h.2 W W.heap.size ρ W cargs hm hv).mono ?_
  rintro e w' ⟨v, v', m', ρ', rfl, rfl, hp, hm', hvr⟩
  rw [hvr.bool_inv]
  exact ⟨rfl, hm'.below⟩

def RowA (m : Mem) (id : Nat) (l : List Int) : Prop := l.length ≤ 9223372036854775807 ∧ ∃ kd e, kd ≠ Kd.dead ∧ m[id]? = some ⟨kd, e, l.map (Value.int .i64)⟩
theorem RowA.lt {m : Mem} {id : Nat} {l : List Int} (h : RowA m id l) : id < m.length := by
  obtain ⟨_, _, _, _, h⟩ := h
  exact (List.getElem?_eq_some_iff.1 h).1
theorem RowA.ext {m : Mem} {id : Nat} {l : List Int} (h : RowA m id l) (new : Mem) : RowA (m ++ new) id l := by
  have hl := h.lt
  obtain ⟨hb, kd, e, hk, h⟩ := h
  exact ⟨hb, kd, e, hk, by rw [List.getElem?_append_left hl]; exact h⟩
theorem RowA.other {m : Mem} {id id' : Nat} {l : List Int} {k0 : Int} {n : Nat} (h : RowA m id' l) (hne : id ≠ id') : RowA (markR m id k0 n) id' l := by
  obtain ⟨hb, kd, e, hk, h⟩ := h
  exact ⟨hb, kd, e, hk, by unfold markR; rw [List.getElem?_set_ne hne]; exact h⟩
theorem RowA.ro {m : Mem} {id : Nat} {l : List Int} (h : RowA m id l) : RowA (roM m) id l := by
  obtain ⟨hb, kd, e, hk, h⟩ := h
  cases kd with
  | dead => exact absurd rfl hk
  | ro => exact ⟨hb, .ro, e, by simp, by unfold roM; rw [List.getElem?_map, h]; rfl⟩
  | own => exact ⟨hb, .ro, e, by simp, by unfold roM; rw [List.getElem?_map, h]; rfl⟩
theorem RowA.ints {m : Mem} {id : Nat} {l : List Int} (h : RowA m id l) (fl : Nat) : IntsA m (.slice (some ⟨id, 0, none⟩) l.length fl) l := by
  obtain ⟨hb, kd, e, hk, h⟩ := h
  refine IntsA.of_block hb (fun k hk2 => ?_) ?_
  · unfold rdc
    rw [h]
    simp [hk, hk2]
  · unfold rdl
    rw [h]
    simp [hk, List.take_of_length_le]
theorem OwnR.row {m : Mem} {id : Nat} {l : List Int} (h : OwnR m id l) (hb : l.length ≤ 9223372036854775807) : RowA m id l := ⟨hb, .own, _, by simp, h⟩
theorem OwnR.new {m new : Mem} {i id : Nat} {l : List Int} (h : new[i]? = some (rowB l)) (hi : id = m.length + i) : OwnR (m ++ new) id l := by
  unfold OwnR; rw [hi, List.getElem?_append_right (by omega)]; simpa using h

def AnsL (m : Mem) (l : List Int) (ok : Bool) (r : Value) (new : Mem) : Prop :=
  NoRo new ∧ l.length ≤ 1048576 ∧ ∃ i fl, r = .tuple #[.slice (some ⟨m.length + i, 0, none⟩) l.length fl, .bool ok] ∧ new[i]? = some (rowB l)
def AnsV (x r : Value) (new : Mem) : Prop := r = x ∧ NoRo new
end Go.Proofs.Ytjdallbnbjnghaa.Ab
end
section
namespace Go.Proofs.Ytjdallbnbjnghaa.Ab
open Go Go.RowKit Go.Proofs
set_option maxRecDepth 100000
def c_impl_ParcelStocks : ACode := .seq (.reg [⟨(some 5), .box 24 (.tmp 2), none⟩,
  ⟨(some 6), .mv (.const (.slice none 0 0)), none⟩,
  ⟨(some 7), .mv (.const (.bool false)), none⟩])
 (.seq (.seq (.reg [⟨(some 11), .mv (.tmp 0), none⟩,
  ⟨(some 12), .call (.func 75) [(.tmp 11)], none⟩,
  ⟨(some 13), .un .not (.tmp 12), none⟩,
  ⟨(some 14), .mv (.tmp 13), none⟩,
  ⟨(some 15), .mv (.tmp 1), (some (14, false))⟩,
  ⟨(some 16), .call (.func 88) [(.tmp 15)], (some (14, false))⟩,
  ⟨(some 17), .un .not (.tmp 16), (some (14, false))⟩,
  ⟨(some 18), .pick (.tmp 14) (.const (.bool true)) (.tmp 17), none⟩,
  ⟨(some 19), .mv (.tmp 18), none⟩,
  ⟨(some 20), .ld none (.tmp 5), (some (19, false))⟩,
  ⟨(some 21), .call (.func 67) [(.tmp 20)], (some (19, false))⟩,
  ⟨(some 22), .un .not (.tmp 21), (some (19, false))⟩,
  ⟨(some 23), .pick (.tmp 19) (.const (.bool true)) (.tmp 22), none⟩])
 (.cond (.tmp 23) (.seq (.reg [⟨(some 24), .bsl 3 1 0 [] [], none⟩,
  ⟨(some 6), .mv (.tmp 24), none⟩,
  ⟨(some 7), .mv (.const (.bool false)), none⟩])
 (.ret)) (.skip)))
 (.seq (.reg [⟨(some 25), .mv (.tmp 1), none⟩,
  ⟨(some 26), .call (.func 89) [(.tmp 25)], none⟩,
  ⟨(some 8), .alc 24 [(.slice none 0 0)], none⟩,
  ⟨none, .st 1 (.tmp 8) (.tmp 26), none⟩])
 (.seq (.reg [⟨(some 28), .mv (.tmp 0), none⟩,
  ⟨(some 29), .ld none (.tmp 5), none⟩,
  ⟨(some 30), .len (.tmp 29), none⟩,
  ⟨(some 31), .mkf 91 [] [(.tmp 8), (.tmp 5)], none⟩,
  ⟨(some 32), .call (.func 90) [(.tmp 28), (.tmp 30), (.tmp 31)], none⟩,
  ⟨(some 27), .mv (.tmp 32), none⟩,
  ⟨(some 33), .ext 0 (.tmp 27), none⟩,
  ⟨(some 34), .ext 1 (.tmp 27), none⟩,
  ⟨(some 9), .mv (.tmp 33), none⟩,
  ⟨(some 10), .mv (.tmp 34), none⟩])
 (.seq (.reg [⟨(some 35), .mv (.tmp 9), none⟩,
  ⟨(some 36), .slc 1 (.tmp 35) (some (.const (.int .i64 1))) none, none⟩,
  ⟨(some 6), .mv (.tmp 36), none⟩,
  ⟨(some 7), .mv (.const (.bool true)), none⟩])
 (.ret)))))
def r_impl_ParcelStocks : List ARes := [.tmp 6, .tmp 7]
theorem ok_impl_ParcelStocks : FnOk Try.prog 36 37 c_impl_ParcelStocks r_impl_ParcelStocks := ⟨⟨Try.f36, _, Try.func36, by kernel_rfl, rfl, rfl, by kernel_rfl, by kernel_rfl⟩⟩
def c_spec_ParcelStocks : ACode := .seq (.reg [⟨(some 6), .mv (.const (.slice none 0 0)), none⟩,
  ⟨(some 7), .mv (.const (.bool false)), none⟩])
 (.seq (.reg [⟨(some 12), .bsl 3 1 0 [] [], none⟩,
  ⟨(some 8), .mv (.tmp 12), none⟩])
 (.seq (.seq (.reg [⟨(some 13), .mv (.tmp 0), none⟩,
  ⟨(some 14), .call (.func 73) [(.tmp 13), (.const (.int .i64 (-200))), (.const (.int .i64 200))], none⟩,
  ⟨(some 15), .un .not (.tmp 14), none⟩,
  ⟨(some 16), .mv (.tmp 15), none⟩,
  ⟨(some 17), .mv (.tmp 1), (some (16, false))⟩,
  ⟨(some 18), .call (.func 92) [(.tmp 17)], (some (16, false))⟩,
  ⟨(some 19), .un .not (.tmp 18), (some (16, false))⟩,
  ⟨(some 20), .pick (.tmp 16) (.const (.bool true)) (.tmp 19), none⟩,
  ⟨(some 21), .mv (.tmp 20), none⟩,
  ⟨(some 22), .mv (.tmp 2), (some (21, false))⟩,
  ⟨(some 23), .call (.func 93) [(.tmp 22), (.const (.int .i64 20)), (.const (.int .i64 20))], (some (21, false))⟩,
  ⟨(some 24), .un .not (.tmp 23), (some (21, false))⟩,
  ⟨(some 25), .pick (.tmp 21) (.const (.bool true)) (.tmp 24), none⟩])
 (.cond (.tmp 25) (.seq (.reg [⟨(some 26), .mv (.tmp 8), none⟩,
  ⟨(some 6), .mv (.tmp 26), none⟩,
  ⟨(some 7), .mv (.const (.bool false)), none⟩])
 (.ret)) (.skip)))
 (.seq (.reg [⟨(some 27), .mv (.tmp 1), none⟩,
  ⟨(some 28), .call (.func 94) [(.tmp 27)], none⟩,
  ⟨(some 29), .mv (.tmp 0), none⟩,
  ⟨(some 9), .mv (.tmp 28), none⟩,
  ⟨(some 10), .mv (.tmp 29), none⟩])
 (.seq (.seq (.reg [⟨(some 11), .mv (.const (.int .i64 0)), none⟩])
 (.block 0 (.loop (.seq (.seq (.reg [⟨(some 30), .mv (.tmp 11), none⟩,
  ⟨(some 31), .mv (.tmp 2), none⟩,
  ⟨(some 32), .len (.tmp 31), none⟩,
  ⟨(some 33), .bin .lss (.tmp 30) (.tmp 32), none⟩])
 (.cond (.tmp 33) (.skip) (.exit 0)))
 (.seq (.block 1 (.seq (.reg [⟨(some 36), .mv (.tmp 10), none⟩,
  ⟨(some 37), .mv (.tmp 9), none⟩,
  ⟨(some 38), .mv (.tmp 11), none⟩,
  ⟨(some 39), .iad 1 (.tmp 37) (.tmp 38), none⟩,
  ⟨(some 40), .ld none (.tmp 39), none⟩,
  ⟨(some 41), .bin .add (.tmp 36) (.tmp 40), none⟩,
  ⟨(some 42), .mv (.tmp 2), none⟩,
  ⟨(some 43), .mv (.tmp 11), none⟩,
  ⟨(some 44), .iad 1 (.tmp 42) (.tmp 43), none⟩,
  ⟨(some 45), .ld none (.tmp 44), none⟩,
  ⟨(some 46), .bin .sub (.tmp 41) (.tmp 45), none⟩,
  ⟨(some 10), .mv (.tmp 46), none⟩])
 (.reg [⟨(some 47), .mv (.tmp 8), none⟩,
  ⟨(some 48), .mv (.tmp 10), none⟩,
  ⟨(some 49), .bsl 3 1 1 [(.int .i64 0)] [(0, 1, (.tmp 48))], none⟩,
  ⟨(some 50), .app 3 1 8 (.tmp 47) (.tmp 49), none⟩,
  ⟨(some 8), .mv (.tmp 50), none⟩])))
 (.reg [⟨(some 34), .mv (.tmp 11), none⟩,
  ⟨(some 35), .bin .add (.tmp 34) (.const (.int .i64 1)), none⟩,
  ⟨(some 11), .mv (.tmp 35), none⟩]))))))
 (.seq (.reg [⟨(some 51), .mv (.tmp 8), none⟩,
  ⟨(some 6), .mv (.tmp 51), none⟩,
  ⟨(some 7), .mv (.const (.bool true)), none⟩])
 (.ret))))))
def r_spec_ParcelStocks : List ARes := [.tmp 6, .tmp 7]
theorem ok_spec_ParcelStocks : FnOk Try.prog 37 52 c_spec_ParcelStocks r_spec_ParcelStocks := ⟨⟨Try.f37, _, Try.func37, by kernel_rfl, rfl, rfl, by kernel_rfl, by kernel_rfl⟩⟩
def c_impl_StraightLeads : ACode := .seq (.reg [⟨(some 1), .box 58 (.tmp 0), none⟩,
  ⟨(some 2), .mv (.const (.slice none 0 0)), none⟩,
  ⟨(some 3), .mv (.const (.bool false)), none⟩])
 (.seq (.reg [⟨(some 9), .mkf 96 [] [(.tmp 1)], none⟩,
  ⟨(some 4), .mv (.tmp 9), none⟩])
 (.seq (.seq (.reg [⟨(some 10), .ld none (.tmp 1), none⟩,
  ⟨(some 11), .call (.func 88) [(.tmp 10)], none⟩,
  ⟨(some 12), .un .not (.tmp 11), none⟩,
  ⟨(some 13), .mv (.tmp 12), none⟩,
  ⟨(some 14), .ld none (.tmp 1), (some (13, false))⟩,
  ⟨(some 15), .mv (.tmp 4), (some (13, false))⟩,
  ⟨(some 16), .call (.func 97) [(.tmp 14), (.tmp 15)], (some (13, false))⟩,
  ⟨(some 17), .pick (.tmp 13) (.const (.bool true)) (.tmp 16), none⟩])
 (.cond (.tmp 17) (.seq (.reg [⟨(some 18), .bsl 66 3 0 [] [], none⟩,
  ⟨(some 2), .mv (.tmp 18), none⟩,
  ⟨(some 3), .mv (.const (.bool false)), none⟩])
 (.ret)) (.skip)))
 (.seq (.reg [⟨(some 19), .ld none (.tmp 1), none⟩,
  ⟨(some 20), .call (.func 98) [(.tmp 19), (.func 99)], none⟩,
  ⟨(some 5), .mv (.tmp 20), none⟩])
 (.seq (.reg [⟨(some 21), .mv (.tmp 5), none⟩,
  ⟨(some 22), .call (.func 100) [(.tmp 21)], none⟩])
 (.seq (.reg [⟨(some 23), .bsl 66 3 0 [] [], none⟩,
  ⟨(some 6), .mv (.tmp 23), none⟩])
 (.seq (.seq (.reg [⟨(some 24), .ld none (.tmp 1), none⟩,
  ⟨(some 25), .len (.tmp 24), none⟩,
  ⟨(some 26), .mv (.const (.int .i64 0)), none⟩])
 (.block 0 (.loop (.seq (.reg [⟨(some 27), .bin .lss (.tmp 26) (.tmp 25), none⟩])
 (.seq (.cond (.tmp 27) (.skip) (.exit 0))
 (.seq (.block 1 (.seq (.reg [⟨(some 28), .mv (.tmp 26), none⟩,
  ⟨(some 29), .iad 3 (.tmp 24) (.tmp 26), none⟩,
  ⟨(some 30), .ld (some 3) (.tmp 29), none⟩,
  ⟨(some 8), .alc 66 [(.int .i64 0), (.int .i64 0), (.int .i64 0)], none⟩,
  ⟨(some 7), .mv (.tmp 28), none⟩,
  ⟨none, .st 3 (.tmp 8) (.tmp 30), none⟩])
 (.seq (.reg [⟨(some 31), .mv (.tmp 5), none⟩,
  ⟨(some 32), .mv (.tmp 7), none⟩,
  ⟨(some 33), .iad 1 (.tmp 31) (.tmp 32), none⟩,
  ⟨(some 34), .ld none (.tmp 33), none⟩,
  ⟨(some 35), .fad 0 (.tmp 8), none⟩,
  ⟨(some 36), .ld none (.tmp 35), none⟩,
  ⟨(some 37), .bin .sub (.tmp 34) (.tmp 36), none⟩,
  ⟨(some 38), .fad 2 (.tmp 8), none⟩,
  ⟨none, .st 1 (.tmp 38) (.tmp 37), none⟩])
 (.reg [⟨(some 39), .mv (.tmp 6), none⟩,
  ⟨(some 40), .ld (some 3) (.tmp 8), none⟩,
  ⟨(some 41), .bsl 66 3 1 [(.int .i64 0), (.int .i64 0), (.int .i64 0)] [(0, 3, (.tmp 40))], none⟩,
  ⟨(some 42), .app 66 3 24 (.tmp 39) (.tmp 41), none⟩,
  ⟨(some 6), .mv (.tmp 42), none⟩]))))
 (.reg [⟨(some 43), .bin .add (.tmp 26) (.const (.int .i64 1)), none⟩,
  ⟨(some 26), .mv (.tmp 43), none⟩])))))))
 (.seq (.reg [⟨(some 44), .mv (.tmp 6), none⟩,
  ⟨(some 2), .mv (.tmp 44), none⟩,
  ⟨(some 3), .mv (.const (.bool true)), none⟩])
 (.ret))))))))
def r_impl_StraightLeads : List ARes := [.tmp 2, .tmp 3]
theorem ok_impl_StraightLeads : FnOk Try.prog 39 45 c_impl_StraightLeads r_impl_StraightLeads := ⟨⟨Try.f39, _, Try.func39, by kernel_rfl, rfl, rfl, by kernel_rfl, by kernel_rfl⟩⟩
def c_spec_StraightLeads : ACode := .seq (.reg [⟨(some 2), .mv (.const (.slice none 0 0)), none⟩,
  ⟨(some 3), .mv (.const (.bool false)), none⟩])
 (.seq (.reg [⟨(some 10), .bsl 66 3 0 [] [], none⟩,
  ⟨(some 11), .bsl 3 1 0 [] [], none⟩,
  ⟨(some 4), .mv (.tmp 10), none⟩,
  ⟨(some 5), .mv (.tmp 11), none⟩])
 (.seq (.seq (.reg [⟨(some 12), .mv (.tmp 0), none⟩,
  ⟨(some 13), .call (.func 92) [(.tmp 12)], none⟩,
  ⟨(some 14), .un .not (.tmp 13), none⟩])
 (.cond (.tmp 14) (.seq (.reg [⟨(some 15), .mv (.tmp 4), none⟩,
  ⟨(some 2), .mv (.tmp 15), none⟩,
  ⟨(some 3), .mv (.const (.bool false)), none⟩])
 (.ret)) (.skip)))
 (.seq (.seq (.reg [⟨(some 6), .mv (.const (.int .i64 0)), none⟩])
 (.block 0 (.loop (.seq (.seq (.reg [⟨(some 16), .mv (.tmp 6), none⟩,
  ⟨(some 17), .mv (.tmp 0), none⟩,
  ⟨(some 18), .len (.tmp 17), none⟩,
  ⟨(some 19), .bin .lss (.tmp 16) (.tmp 18), none⟩])
 (.cond (.tmp 19) (.skip) (.exit 0)))
 (.seq (.block 1 (.seq (.seq (.reg [⟨(some 22), .mv (.tmp 0), none⟩,
  ⟨(some 23), .mv (.tmp 6), none⟩,
  ⟨(some 24), .iad 3 (.tmp 22) (.tmp 23), none⟩,
  ⟨(some 25), .fad 1 (.tmp 24), none⟩,
  ⟨(some 26), .ld none (.tmp 25), none⟩,
  ⟨(some 27), .mv (.tmp 0), none⟩,
  ⟨(some 28), .iad 3 (.tmp 27) (.const (.int .i64 0)), none⟩,
  ⟨(some 29), .fad 1 (.tmp 28), none⟩,
  ⟨(some 30), .ld none (.tmp 29), none⟩,
  ⟨(some 31), .bin .neq (.tmp 26) (.tmp 30), none⟩])
 (.cond (.tmp 31) (.seq (.reg [⟨(some 32), .bsl 66 3 0 [] [], none⟩,
  ⟨(some 2), .mv (.tmp 32), none⟩,
  ⟨(some 3), .mv (.const (.bool false)), none⟩])
 (.ret)) (.skip)))
 (.seq (.reg [⟨(some 33), .mv (.tmp 0), none⟩,
  ⟨(some 34), .mv (.tmp 6), none⟩,
  ⟨(some 35), .iad 3 (.tmp 33) (.tmp 34), none⟩,
  ⟨(some 36), .fad 0 (.tmp 35), none⟩,
  ⟨(some 37), .ld none (.tmp 36), none⟩,
  ⟨(some 38), .mv (.tmp 0), none⟩,
  ⟨(some 39), .mv (.tmp 6), none⟩,
  ⟨(some 40), .iad 3 (.tmp 38) (.tmp 39), none⟩,
  ⟨(some 41), .fad 2 (.tmp 40), none⟩,
  ⟨(some 42), .ld none (.tmp 41), none⟩,
  ⟨(some 43), .bin .add (.tmp 37) (.tmp 42), none⟩,
  ⟨(some 7), .mv (.tmp 43), none⟩,
  ⟨(some 8), .mv (.const (.int .i64 0)), none⟩])
 (.seq (.block 2 (.loop (.seq (.seq (.reg [⟨(some 44), .mv (.tmp 8), none⟩,
  ⟨(some 45), .mv (.tmp 5), none⟩,
  ⟨(some 46), .len (.tmp 45), none⟩,
  ⟨(some 47), .bin .lss (.tmp 44) (.tmp 46), none⟩,
  ⟨(some 48), .mv (.tmp 47), none⟩,
  ⟨(some 49), .mv (.tmp 5), (some (48, true))⟩,
  ⟨(some 50), .mv (.tmp 8), (some (48, true))⟩,
  ⟨(some 51), .iad 1 (.tmp 49) (.tmp 50), (some (48, true))⟩,
  ⟨(some 52), .ld none (.tmp 51), (some (48, true))⟩,
  ⟨(some 53), .mv (.tmp 7), (some (48, true))⟩,
  ⟨(some 54), .bin .leq (.tmp 52) (.tmp 53), (some (48, true))⟩,
  ⟨(some 55), .pick (.tmp 48) (.tmp 54) (.const (.bool false)), none⟩])
 (.cond (.tmp 55) (.skip) (.exit 2)))
 (.block 3 (.reg [⟨(some 56), .mv (.tmp 8), none⟩,
  ⟨(some 57), .bin .add (.tmp 56) (.const (.int .i64 1)), none⟩,
  ⟨(some 8), .mv (.tmp 57), none⟩])))))
 (.seq (.reg [⟨(some 59), .mv (.tmp 5), none⟩]) (.seq (.reg [⟨(some 60), .mv (.tmp 8), none⟩]) (.seq (.reg [⟨(some 61), .slc 1 (.tmp 59) none (some (.tmp 60)), none⟩]) (.seq (.reg [⟨(some 63), .mv (.tmp 7), none⟩]) (.seq (.reg [⟨(some 66), .mv (.tmp 5), none⟩]) (.seq (.reg [⟨(some 67), .mv (.tmp 8), none⟩]) (.seq (.reg [⟨(some 68), .slc 1 (.tmp 66) (some (.tmp 67)) none, none⟩]) (.both (.seq (.reg [⟨(some 58), .bsl 3 1 0 [] [], none⟩]) (.both (.seq (.reg [⟨(some 62), .app 3 1 8 (.tmp 58) (.tmp 61), none⟩]) (.seq (.reg [⟨(some 64), .bsl 3 1 1 [(.int .i64 0)] [(0, 1, (.tmp 63))], none⟩]) (.seq (.reg [⟨(some 65), .app 3 1 8 (.tmp 62) (.tmp 64), none⟩]) (.seq (.reg [⟨(some 69), .app 3 1 8 (.tmp 65) (.tmp 68), none⟩]) (.seq (.reg [⟨(some 5), .mv (.tmp 69), none⟩]) (.skip)))))) (.seq (.reg [⟨(some 64), .bsl 3 1 1 [(.int .i64 0)] [(0, 1, (.tmp 63))], none⟩]) (.seq (.reg [⟨(some 62), .app 3 1 8 (.tmp 58) (.tmp 61), none⟩]) (.seq (.reg [⟨(some 65), .app 3 1 8 (.tmp 62) (.tmp 64), none⟩]) (.seq (.reg [⟨(some 69), .app 3 1 8 (.tmp 65) (.tmp 68), none⟩]) (.seq (.reg [⟨(some 5), .mv (.tmp 69), none⟩]) (.skip)))))))) (.seq (.reg [⟨(some 64), .bsl 3 1 1 [(.int .i64 0)] [(0, 1, (.tmp 63))], none⟩]) (.seq (.reg [⟨(some 58), .bsl 3 1 0 [] [], none⟩]) (.seq (.reg [⟨(some 62), .app 3 1 8 (.tmp 58) (.tmp 61), none⟩]) (.seq (.reg [⟨(some 65), .app 3 1 8 (.tmp 62) (.tmp 64), none⟩]) (.seq (.reg [⟨(some 69), .app 3 1 8 (.tmp 65) (.tmp 68), none⟩]) (.seq (.reg [⟨(some 5), .mv (.tmp 69), none⟩]) (.skip)))))))))))))))))))
 (.reg [⟨(some 20), .mv (.tmp 6), none⟩,
  ⟨(some 21), .bin .add (.tmp 20) (.const (.int .i64 1)), none⟩,
  ⟨(some 6), .mv (.tmp 21), none⟩]))))))
 (.seq (.seq (.reg [⟨(some 9), .mv (.const (.int .i64 0)), none⟩])
 (.block 4 (.loop (.seq (.seq (.reg [⟨(some 70), .mv (.tmp 9), none⟩,
  ⟨(some 71), .mv (.tmp 0), none⟩,
  ⟨(some 72), .len (.tmp 71), none⟩,
  ⟨(some 73), .bin .lss (.tmp 70) (.tmp 72), none⟩])
 (.cond (.tmp 73) (.skip) (.exit 4)))
 (.seq (.block 5 (.reg [⟨(some 76), .mv (.tmp 4), none⟩,
  ⟨(some 77), .mv (.tmp 0), none⟩,
  ⟨(some 78), .mv (.tmp 9), none⟩,
  ⟨(some 79), .iad 3 (.tmp 77) (.tmp 78), none⟩,
  ⟨(some 80), .fad 0 (.tmp 79), none⟩,
  ⟨(some 81), .ld none (.tmp 80), none⟩,
  ⟨(some 82), .mv (.tmp 0), none⟩,
  ⟨(some 83), .mv (.tmp 9), none⟩,
  ⟨(some 84), .iad 3 (.tmp 82) (.tmp 83), none⟩,
  ⟨(some 85), .fad 1 (.tmp 84), none⟩,
  ⟨(some 86), .ld none (.tmp 85), none⟩,
  ⟨(some 87), .mv (.tmp 5), none⟩,
  ⟨(some 88), .mv (.tmp 9), none⟩,
  ⟨(some 89), .iad 1 (.tmp 87) (.tmp 88), none⟩,
  ⟨(some 90), .ld none (.tmp 89), none⟩,
  ⟨(some 91), .mv (.tmp 0), none⟩,
  ⟨(some 92), .mv (.tmp 9), none⟩,
  ⟨(some 93), .iad 3 (.tmp 91) (.tmp 92), none⟩,
  ⟨(some 94), .fad 0 (.tmp 93), none⟩,
  ⟨(some 95), .ld none (.tmp 94), none⟩,
  ⟨(some 96), .bin .sub (.tmp 90) (.tmp 95), none⟩,
  ⟨(some 97), .bld [(.int .i64 0), (.int .i64 0), (.int .i64 0)] [(0, 1, (.tmp 81)), (1, 1, (.tmp 86)), (2, 1, (.tmp 96))], none⟩,
  ⟨(some 98), .bsl 66 3 1 [(.int .i64 0), (.int .i64 0), (.int .i64 0)] [(0, 3, (.tmp 97))], none⟩,
  ⟨(some 99), .app 66 3 24 (.tmp 76) (.tmp 98), none⟩,
  ⟨(some 4), .mv (.tmp 99), none⟩]))
 (.reg [⟨(some 74), .mv (.tmp 9), none⟩,
  ⟨(some 75), .bin .add (.tmp 74) (.const (.int .i64 1)), none⟩,
  ⟨(some 9), .mv (.tmp 75), none⟩]))))))
 (.seq (.reg [⟨(some 100), .mv (.tmp 4), none⟩,
  ⟨(some 2), .mv (.tmp 100), none⟩,
  ⟨(some 3), .mv (.const (.bool true)), none⟩])
 (.ret))))))
def r_spec_StraightLeads : List ARes := [.tmp 2, .tmp 3]
theorem ok_spec_StraightLeads : FnOk Try.prog 40 101 c_spec_StraightLeads r_spec_StraightLeads := ⟨⟨Try.f40, _, Try.func40, by kernel_rfl, rfl, rfl, by kernel_rfl, by kernel_rfl⟩⟩
def c_impl_CrossingPairs : ACode := .seq (.reg [⟨(some 2), .mv (.const (.slice none 0 0)), none⟩,
  ⟨(some 3), .mv (.const (.bool false)), none⟩])
 (.seq (.seq (.reg [⟨(some 9), .mv (.tmp 0), none⟩,
  ⟨(some 10), .call (.func 88) [(.tmp 9)], none⟩,
  ⟨(some 11), .un .not (.tmp 10), none⟩])
 (.cond (.tmp 11) (.seq (.reg [⟨(some 12), .bsl 124 2 0 [] [], none⟩,
  ⟨(some 2), .mv (.tmp 12), none⟩,
  ⟨(some 3), .mv (.const (.bool false)), none⟩])
 (.ret)) (.skip)))
 (.seq (.reg [⟨(some 13), .bsl 124 2 0 [] [], none⟩,
  ⟨(some 4), .mv (.tmp 13), none⟩])
 (.seq (.seq (.reg [⟨(some 14), .mv (.tmp 0), none⟩,
  ⟨(some 15), .len (.tmp 14), none⟩,
  ⟨(some 16), .mv (.const (.int .i64 0)), none⟩])
 (.block 0 (.loop (.seq (.reg [⟨(some 17), .bin .lss (.tmp 16) (.tmp 15), none⟩])
 (.seq (.cond (.tmp 17) (.skip) (.exit 0))
 (.seq (.block 1 (.seq (.reg [⟨(some 18), .mv (.tmp 16), none⟩,
  ⟨(some 19), .iad 3 (.tmp 14) (.tmp 16), none⟩,
  ⟨(some 20), .ld (some 3) (.tmp 19), none⟩,
  ⟨(some 6), .alc 66 [(.int .i64 0), (.int .i64 0), (.int .i64 0)], none⟩,
  ⟨(some 5), .mv (.tmp 18), none⟩,
  ⟨none, .st 3 (.tmp 6) (.tmp 20), none⟩])
 (.seq (.reg [⟨(some 21), .mv (.tmp 0), none⟩,
  ⟨(some 22), .len (.tmp 21), none⟩,
  ⟨(some 23), .mv (.const (.int .i64 0)), none⟩])
 (.block 2 (.loop (.seq (.reg [⟨(some 24), .bin .lss (.tmp 23) (.tmp 22), none⟩])
 (.seq (.cond (.tmp 24) (.skip) (.exit 2))
 (.seq (.block 3 (.seq (.reg [⟨(some 25), .mv (.tmp 23), none⟩,
  ⟨(some 26), .iad 3 (.tmp 21) (.tmp 23), none⟩,
  ⟨(some 27), .ld (some 3) (.tmp 26), none⟩,
  ⟨(some 8), .alc 66 [(.int .i64 0), (.int .i64 0), (.int .i64 0)], none⟩,
  ⟨(some 7), .mv (.tmp 25), none⟩,
  ⟨none, .st 3 (.tmp 8) (.tmp 27), none⟩])
 (.seq (.reg [⟨(some 28), .ld (some 3) (.tmp 6), none⟩,
  ⟨(some 29), .ld (some 3) (.tmp 8), none⟩,
  ⟨(some 30), .call (.func 101) [(.tmp 28), (.tmp 29)], none⟩])
 (.cond (.tmp 30) (.reg [⟨(some 31), .mv (.tmp 4), none⟩,
  ⟨(some 32), .mv (.tmp 5), none⟩,
  ⟨(some 33), .mv (.tmp 7), none⟩,
  ⟨(some 34), .bld [(.int .i64 0), (.int .i64 0)] [(0, 1, (.tmp 32)), (1, 1, (.tmp 33))], none⟩,
  ⟨(some 35), .bsl 124 2 1 [(.int .i64 0), (.int .i64 0)] [(0, 2, (.tmp 34))], none⟩,
  ⟨(some 36), .app 124 2 16 (.tmp 31) (.tmp 35), none⟩,
  ⟨(some 4), .mv (.tmp 36), none⟩]) (.skip)))))
 (.reg [⟨(some 37), .bin .add (.tmp 23) (.const (.int .i64 1)), none⟩,
  ⟨(some 23), .mv (.tmp 37), none⟩])))))))))
 (.reg [⟨(some 38), .bin .add (.tmp 16) (.const (.int .i64 1)), none⟩,
  ⟨(some 16), .mv (.tmp 38), none⟩])))))))
 (.seq (.reg [⟨(some 39), .mv (.tmp 4), none⟩,
  ⟨(some 2), .mv (.tmp 39), none⟩,
  ⟨(some 3), .mv (.const (.bool true)), none⟩])
 (.ret)))))
def r_impl_CrossingPairs : List ARes := [.tmp 2, .tmp 3]
theorem ok_impl_CrossingPairs : FnOk Try.prog 41 40 c_impl_CrossingPairs r_impl_CrossingPairs := ⟨⟨Try.f41, _, Try.func41, by kernel_rfl, rfl, rfl, by kernel_rfl, by kernel_rfl⟩⟩
def c_spec_CrossingPairs : ACode := .seq (.reg [⟨(some 2), .mv (.const (.slice none 0 0)), none⟩,
  ⟨(some 3), .mv (.const (.bool false)), none⟩])
 (.seq (.reg [⟨(some 9), .bsl 124 2 0 [] [], none⟩,
  ⟨(some 4), .mv (.tmp 9), none⟩])
 (.seq (.seq (.reg [⟨(some 10), .mv (.tmp 0), none⟩,
  ⟨(some 11), .call (.func 92) [(.tmp 10)], none⟩,
  ⟨(some 12), .un .not (.tmp 11), none⟩])
 (.cond (.tmp 12) (.seq (.reg [⟨(some 13), .mv (.tmp 4), none⟩,
  ⟨(some 2), .mv (.tmp 13), none⟩,
  ⟨(some 3), .mv (.const (.bool false)), none⟩])
 (.ret)) (.skip)))
 (.seq (.seq (.reg [⟨(some 5), .mv (.const (.int .i64 0)), none⟩])
 (.block 0 (.loop (.seq (.seq (.reg [⟨(some 14), .mv (.tmp 5), none⟩,
  ⟨(some 15), .mv (.tmp 0), none⟩,
  ⟨(some 16), .len (.tmp 15), none⟩,
  ⟨(some 17), .bin .lss (.tmp 14) (.tmp 16), none⟩])
 (.cond (.tmp 17) (.skip) (.exit 0)))
 (.seq (.block 1 (.seq (.reg [⟨(some 20), .mv (.tmp 5), none⟩,
  ⟨(some 21), .bin .add (.tmp 20) (.const (.int .i64 1)), none⟩,
  ⟨(some 6), .mv (.tmp 21), none⟩])
 (.block 2 (.loop (.seq (.seq (.reg [⟨(some 22), .mv (.tmp 6), none⟩,
  ⟨(some 23), .mv (.tmp 0), none⟩,
  ⟨(some 24), .len (.tmp 23), none⟩,
  ⟨(some 25), .bin .lss (.tmp 22) (.tmp 24), none⟩])
 (.cond (.tmp 25) (.skip) (.exit 2)))
 (.seq (.block 3 (.seq (.seq (.reg [⟨(some 28), .mv (.tmp 0), none⟩]) (.seq (.reg [⟨(some 29), .mv (.tmp 5), none⟩]) (.seq (.reg [⟨(some 30), .iad 3 (.tmp 28) (.tmp 29), none⟩]) (.seq (.reg [⟨(some 31), .ld (some 3) (.tmp 30), none⟩]) (.seq (.reg [⟨(some 32), .mv (.tmp 0), none⟩]) (.seq (.reg [⟨(some 33), .mv (.tmp 6), none⟩]) (.seq (.reg [⟨(some 34), .iad 3 (.tmp 32) (.tmp 33), none⟩]) (.both (.seq (.reg [⟨(some 35), .ld (some 3) (.tmp 34), none⟩]) (.both (.seq (.reg [⟨(some 7), .alc 66 [(.int .i64 0), (.int .i64 0), (.int .i64 0)], none⟩]) (.seq (.reg [⟨(some 8), .alc 66 [(.int .i64 0), (.int .i64 0), (.int .i64 0)], none⟩]) (.seq (.reg [⟨none, .st 3 (.tmp 7) (.tmp 31), none⟩]) (.seq (.reg [⟨none, .st 3 (.tmp 8) (.tmp 35), none⟩]) (.skip))))) (.seq (.reg [⟨(some 8), .alc 66 [(.int .i64 0), (.int .i64 0), (.int .i64 0)], none⟩]) (.seq (.reg [⟨(some 7), .alc 66 [(.int .i64 0), (.int .i64 0), (.int .i64 0)], none⟩]) (.seq (.reg [⟨none, .st 3 (.tmp 7) (.tmp 31), none⟩]) (.seq (.reg [⟨none, .st 3 (.tmp 8) (.tmp 35), none⟩]) (.skip))))))) (.both (.seq (.reg [⟨(some 7), .alc 66 [(.int .i64 0), (.int .i64 0), (.int .i64 0)], none⟩]) (.both (.seq (.reg [⟨(some 35), .ld (some 3) (.tmp 34), none⟩]) (.seq (.reg [⟨(some 8), .alc 66 [(.int .i64 0), (.int .i64 0), (.int .i64 0)], none⟩]) (.seq (.reg [⟨none, .st 3 (.tmp 7) (.tmp 31), none⟩]) (.seq (.reg [⟨none, .st 3 (.tmp 8) (.tmp 35), none⟩]) (.skip))))) (.seq (.reg [⟨(some 8), .alc 66 [(.int .i64 0), (.int .i64 0), (.int .i64 0)], none⟩]) (.both (.seq (.reg [⟨(some 35), .ld (some 3) (.tmp 34), none⟩]) (.seq (.reg [⟨none, .st 3 (.tmp 7) (.tmp 31), none⟩]) (.seq (.reg [⟨none, .st 3 (.tmp 8) (.tmp 35), none⟩]) (.skip)))) (.seq (.reg [⟨none, .st 3 (.tmp 7) (.tmp 31), none⟩]) (.seq (.reg [⟨(some 35), .ld (some 3) (.tmp 34), none⟩]) (.seq (.reg [⟨none, .st 3 (.tmp 8) (.tmp 35), none⟩]) (.skip)))))))) (.seq (.reg [⟨(some 8), .alc 66 [(.int .i64 0), (.int .i64 0), (.int .i64 0)], none⟩]) (.both (.seq (.reg [⟨(some 35), .ld (some 3) (.tmp 34), none⟩]) (.seq (.reg [⟨(some 7), .alc 66 [(.int .i64 0), (.int .i64 0), (.int .i64 0)], none⟩]) (.seq (.reg [⟨none, .st 3 (.tmp 7) (.tmp 31), none⟩]) (.seq (.reg [⟨none, .st 3 (.tmp 8) (.tmp 35), none⟩]) (.skip))))) (.seq (.reg [⟨(some 7), .alc 66 [(.int .i64 0), (.int .i64 0), (.int .i64 0)], none⟩]) (.both (.seq (.reg [⟨(some 35), .ld (some 3) (.tmp 34), none⟩]) (.seq (.reg [⟨none, .st 3 (.tmp 7) (.tmp 31), none⟩]) (.seq (.reg [⟨none, .st 3 (.tmp 8) (.tmp 35), none⟩]) (.skip)))) (.seq (.reg [⟨none, .st 3 (.tmp 7) (.tmp 31), none⟩]) (.seq (.reg [⟨(some 35), .ld (some 3) (.tmp 34), none⟩]) (.seq (.reg [⟨none, .st 3 (.tmp 8) (.tmp 35), none⟩]) (.skip)))))))))))))))))
 (.seq (.reg [⟨(some 36), .fad 0 (.tmp 7), none⟩,
  ⟨(some 37), .ld none (.tmp 36), none⟩,
  ⟨(some 38), .fad 0 (.tmp 8), none⟩,
  ⟨(some 39), .ld none (.tmp 38), none⟩,
  ⟨(some 40), .bin .lss (.tmp 37) (.tmp 39), none⟩,
  ⟨(some 41), .mv (.tmp 40), none⟩,
  ⟨(some 42), .fad 0 (.tmp 7), (some (41, true))⟩,
  ⟨(some 43), .ld none (.tmp 42), (some (41, true))⟩,
  ⟨(some 44), .fad 2 (.tmp 7), (some (41, true))⟩,
  ⟨(some 45), .ld none (.tmp 44), (some (41, true))⟩,
  ⟨(some 46), .bin .add (.tmp 43) (.tmp 45), (some (41, true))⟩,
  ⟨(some 47), .fad 0 (.tmp 8), (some (41, true))⟩,
  ⟨(some 48), .ld none (.tmp 47), (some (41, true))⟩,
  ⟨(some 49), .fad 2 (.tmp 8), (some (41, true))⟩,
  ⟨(some 50), .ld none (.tmp 49), (some (41, true))⟩,
  ⟨(some 51), .bin .add (.tmp 48) (.tmp 50), (some (41, true))⟩,
  ⟨(some 52), .bin .gtr (.tmp 46) (.tmp 51), (some (41, true))⟩,
  ⟨(some 53), .pick (.tmp 41) (.tmp 52) (.const (.bool false)), none⟩])
 (.cond (.tmp 53) (.reg [⟨(some 54), .mv (.tmp 4), none⟩,
  ⟨(some 55), .mv (.tmp 5), none⟩,
  ⟨(some 56), .mv (.tmp 6), none⟩,
  ⟨(some 57), .bld [(.int .i64 0), (.int .i64 0)] [(0, 1, (.tmp 55)), (1, 1, (.tmp 56))], none⟩,
  ⟨(some 58), .bsl 124 2 1 [(.int .i64 0), (.int .i64 0)] [(0, 2, (.tmp 57))], none⟩,
  ⟨(some 59), .app 124 2 16 (.tmp 54) (.tmp 58), none⟩,
  ⟨(some 4), .mv (.tmp 59), none⟩]) (.skip)))))
 (.reg [⟨(some 26), .mv (.tmp 6), none⟩,
  ⟨(some 27), .bin .add (.tmp 26) (.const (.int .i64 1)), none⟩,
  ⟨(some 6), .mv (.tmp 27), none⟩])))))))
 (.reg [⟨(some 18), .mv (.tmp 5), none⟩,
  ⟨(some 19), .bin .add (.tmp 18) (.const (.int .i64 1)), none⟩,
  ⟨(some 5), .mv (.tmp 19), none⟩]))))))
 (.seq (.reg [⟨(some 60), .mv (.tmp 4), none⟩,
  ⟨(some 2), .mv (.tmp 60), none⟩,
  ⟨(some 3), .mv (.const (.bool true)), none⟩])
 (.ret)))))
def r_spec_CrossingPairs : List ARes := [.tmp 2, .tmp 3]
theorem ok_spec_CrossingPairs : FnOk Try.prog 42 61 c_spec_CrossingPairs r_spec_CrossingPairs := ⟨⟨Try.f42, _, Try.func42, by kernel_rfl, rfl, rfl, by kernel_rfl, by kernel_rfl⟩⟩
def c_impl_ArrivalsOf : ACode := .seq (.reg [⟨(some 2), .mv (.const (.slice none 0 0)), none⟩,
  ⟨(some 3), .mv (.const (.bool false)), none⟩])
 (.seq (.seq (.reg [⟨(some 4), .mv (.tmp 0), none⟩,
  ⟨(some 5), .call (.func 88) [(.tmp 4)], none⟩,
  ⟨(some 6), .un .not (.tmp 5), none⟩])
 (.cond (.tmp 6) (.seq (.reg [⟨(some 7), .bsl 3 1 0 [] [], none⟩,
  ⟨(some 2), .mv (.tmp 7), none⟩,
  ⟨(some 3), .mv (.const (.bool false)), none⟩])
 (.ret)) (.skip)))
 (.seq (.reg [⟨(some 8), .mv (.tmp 0), none⟩,
  ⟨(some 9), .call (.func 89) [(.tmp 8)], none⟩,
  ⟨(some 2), .mv (.tmp 9), none⟩,
  ⟨(some 3), .mv (.const (.bool true)), none⟩])
 (.ret)))
def r_impl_ArrivalsOf : List ARes := [.tmp 2, .tmp 3]
theorem ok_impl_ArrivalsOf : FnOk Try.prog 44 10 c_impl_ArrivalsOf r_impl_ArrivalsOf := ⟨⟨Try.f44, _, Try.func44, by kernel_rfl, rfl, rfl, by kernel_rfl, by kernel_rfl⟩⟩
def c_spec_ArrivalsOf : ACode := .seq (.reg [⟨(some 2), .mv (.const (.slice none 0 0)), none⟩,
  ⟨(some 3), .mv (.const (.bool false)), none⟩])
 (.seq (.seq (.reg [⟨(some 4), .mv (.tmp 0), none⟩,
  ⟨(some 5), .call (.func 92) [(.tmp 4)], none⟩,
  ⟨(some 6), .un .not (.tmp 5), none⟩])
 (.cond (.tmp 6) (.seq (.reg [⟨(some 7), .bsl 3 1 0 [] [], none⟩,
  ⟨(some 2), .mv (.tmp 7), none⟩,
  ⟨(some 3), .mv (.const (.bool false)), none⟩])
 (.ret)) (.skip)))
 (.seq (.reg [⟨(some 8), .mv (.tmp 0), none⟩,
  ⟨(some 9), .call (.func 94) [(.tmp 8)], none⟩,
  ⟨(some 2), .mv (.tmp 9), none⟩,
  ⟨(some 3), .mv (.const (.bool true)), none⟩])
 (.ret)))
def r_spec_ArrivalsOf : List ARes := [.tmp 2, .tmp 3]
theorem ok_spec_ArrivalsOf : FnOk Try.prog 45 10 c_spec_ArrivalsOf r_spec_ArrivalsOf := ⟨⟨Try.f45, _, Try.func45, by kernel_rfl, rfl, rfl, by kernel_rfl, by kernel_rfl⟩⟩
def c_impl_areAsked : ACode := .seq (.reg [⟨(some 2), .mv (.const (.bool false)), none⟩])
 (.seq (.reg [⟨(some 3), .mv (.tmp 0), none⟩,
  ⟨(some 4), .call (.func 76) [(.const (.int .i64 20)), (.tmp 3), (.func 71)], none⟩,
  ⟨(some 2), .mv (.tmp 4), none⟩])
 (.ret))
def r_impl_areAsked : List ARes := [.tmp 2]
theorem ok_impl_areAsked : FnOk Try.prog 67 5 c_impl_areAsked r_impl_areAsked := ⟨⟨Try.f67, _, Try.func67, by kernel_rfl, rfl, rfl, by kernel_rfl, by kernel_rfl⟩⟩
def c_impl_isWithin : ACode := .seq (.reg [⟨(some 4), .mv (.const (.bool false)), none⟩])
 (.seq (.reg [⟨(some 5), .mv (.tmp 0), none⟩,
  ⟨(some 6), .bin .geq (.tmp 5) (.const (.int .i64 0)), none⟩,
  ⟨(some 7), .mv (.tmp 6), none⟩,
  ⟨(some 8), .mv (.tmp 0), (some (7, true))⟩,
  ⟨(some 9), .mv (.tmp 1), (some (7, true))⟩,
  ⟨(some 10), .bin .leq (.tmp 8) (.tmp 9), (some (7, true))⟩,
  ⟨(some 11), .pick (.tmp 7) (.tmp 10) (.const (.bool false)), none⟩,
  ⟨(some 4), .mv (.tmp 11), none⟩])
 (.ret))
def r_impl_isWithin : List ARes := [.tmp 4]
theorem ok_impl_isWithin : FnOk Try.prog 68 12 c_impl_isWithin r_impl_isWithin := ⟨⟨Try.f68, _, Try.func68, by kernel_rfl, rfl, rfl, by kernel_rfl, by kernel_rfl⟩⟩
def c_impl_isAsked : ACode := .seq (.reg [⟨(some 2), .mv (.const (.bool false)), none⟩])
 (.seq (.reg [⟨(some 3), .mv (.tmp 0), none⟩,
  ⟨(some 4), .call (.func 68) [(.tmp 3), (.const (.int .i64 20))], none⟩,
  ⟨(some 2), .mv (.tmp 4), none⟩])
 (.ret))
def r_impl_isAsked : List ARes := [.tmp 2]
theorem ok_impl_isAsked : FnOk Try.prog 71 5 c_impl_isAsked r_impl_isAsked := ⟨⟨Try.f71, _, Try.func71, by kernel_rfl, rfl, rfl, by kernel_rfl, by kernel_rfl⟩⟩
def c_spec_l1In : ACode := .seq (.reg [⟨(some 6), .mv (.const (.bool false)), none⟩])
 (.seq (.reg [⟨(some 7), .mv (.tmp 0), none⟩,
  ⟨(some 8), .mv (.tmp 1), none⟩,
  ⟨(some 9), .bin .geq (.tmp 7) (.tmp 8), none⟩,
  ⟨(some 10), .mv (.tmp 9), none⟩,
  ⟨(some 11), .mv (.tmp 0), (some (10, true))⟩,
  ⟨(some 12), .mv (.tmp 2), (some (10, true))⟩,
  ⟨(some 13), .bin .leq (.tmp 11) (.tmp 12), (some (10, true))⟩,
  ⟨(some 14), .pick (.tmp 10) (.tmp 13) (.const (.bool false)), none⟩,
  ⟨(some 6), .mv (.tmp 14), none⟩])
 (.ret))
def r_spec_l1In : List ARes := [.tmp 6]
theorem ok_spec_l1In : FnOk Try.prog 73 15 c_spec_l1In r_spec_l1In := ⟨⟨Try.f73, _, Try.func73, by kernel_rfl, rfl, rfl, by kernel_rfl, by kernel_rfl⟩⟩
def c_impl_isStock : ACode := .seq (.reg [⟨(some 2), .mv (.const (.bool false)), none⟩])
 (.seq (.reg [⟨(some 3), .mv (.tmp 0), none⟩,
  ⟨(some 4), .call (.func 112) [(.tmp 3), (.const (.int .i64 200))], none⟩,
  ⟨(some 2), .mv (.tmp 4), none⟩])
 (.ret))
def r_impl_isStock : List ARes := [.tmp 2]
theorem ok_impl_isStock : FnOk Try.prog 75 5 c_impl_isStock r_impl_isStock := ⟨⟨Try.f75, _, Try.func75, by kernel_rfl, rfl, rfl, by kernel_rfl, by kernel_rfl⟩⟩
def c_impl_areAtMost : ACode := .seq (.reg [⟨(some 5), .box 94 (.tmp 2), none⟩,
  ⟨(some 6), .mv (.const (.bool false)), none⟩])
 (.seq (.reg [⟨(some 8), .mkf 113 [] [(.tmp 5)], none⟩,
  ⟨(some 7), .mv (.tmp 8), none⟩])
 (.seq (.reg [⟨(some 9), .mv (.tmp 1), none⟩,
  ⟨(some 10), .len (.tmp 9), none⟩,
  ⟨(some 11), .mv (.tmp 0), none⟩,
  ⟨(some 12), .bin .leq (.tmp 10) (.tmp 11), none⟩,
  ⟨(some 13), .mv (.tmp 12), none⟩,
  ⟨(some 14), .mv (.tmp 1), (some (13, true))⟩,
  ⟨(some 15), .mv (.tmp 7), (some (13, true))⟩,
  ⟨(some 16), .call (.func 114) [(.tmp 14), (.tmp 15)], (some (13, true))⟩,
  ⟨(some 17), .un .not (.tmp 16), (some (13, true))⟩,
  ⟨(some 18), .pick (.tmp 13) (.tmp 17) (.const (.bool false)), none⟩,
  ⟨(some 6), .mv (.tmp 18), none⟩])
 (.ret)))
def r_impl_areAtMost : List ARes := [.tmp 6]
theorem ok_impl_areAtMost : FnOk Try.prog 76 19 c_impl_areAtMost r_impl_areAtMost := ⟨⟨Try.f76, _, Try.func76, by kernel_rfl, rfl, rfl, by kernel_rfl, by kernel_rfl⟩⟩
def c_impl_areParcels : ACode := .seq (.reg [⟨(some 2), .mv (.const (.bool false)), none⟩])
 (.seq (.reg [⟨(some 3), .mv (.func 116), none⟩])
 (.seq (.reg [⟨(some 4), .mv (.tmp 0), none⟩,
  ⟨(some 5), .call (.func 117) [(.const (.int .i64 12)), (.tmp 4), (.func 118)], none⟩,
  ⟨(some 6), .mv (.tmp 5), none⟩,
  ⟨(some 7), .mv (.tmp 0), (some (6, true))⟩,
  ⟨(some 8), .mv (.tmp 3), (some (6, true))⟩,
  ⟨(some 9), .call (.func 119) [(.tmp 7), (.tmp 8)], (some (6, true))⟩,
  ⟨(some 10), .pick (.tmp 6) (.tmp 9) (.const (.bool false)), none⟩,
  ⟨(some 2), .mv (.tmp 10), none⟩])
 (.ret)))
def r_impl_areParcels : List ARes := [.tmp 2]
theorem ok_impl_areParcels : FnOk Try.prog 88 11 c_impl_areParcels r_impl_areParcels := ⟨⟨Try.f88, _, Try.func88, by kernel_rfl, rfl, rfl, by kernel_rfl, by kernel_rfl⟩⟩
def c_impl_arrivalsOf : ACode := .seq (.reg [⟨(some 2), .mv (.const (.slice none 0 0)), none⟩])
 (.seq (.reg [⟨(some 6), .mks 3 8 [(.int .i64 0)] (.const (.int .i64 24)) (.const (.int .i64 24)), none⟩,
  ⟨(some 3), .mv (.tmp 6), none⟩])
 (.seq (.seq (.reg [⟨(some 7), .mv (.tmp 0), none⟩,
  ⟨(some 8), .len (.tmp 7), none⟩,
  ⟨(some 9), .mv (.const (.int .i64 0)), none⟩])
 (.block 0 (.loop (.seq (.reg [⟨(some 10), .bin .lss (.tmp 9) (.tmp 8), none⟩])
 (.seq (.cond (.tmp 10) (.skip) (.exit 0))
 (.seq (.block 1 (.seq (.reg [⟨(some 11), .iad 3 (.tmp 7) (.tmp 9), none⟩,
  ⟨(some 12), .ld (some 3) (.tmp 11), none⟩,
  ⟨(some 5), .alc 66 [(.int .i64 0), (.int .i64 0), (.int .i64 0)], none⟩,
  ⟨none, .st 3 (.tmp 5) (.tmp 12), none⟩])
 (.reg [⟨(some 13), .mv (.tmp 3), none⟩,
  ⟨(some 14), .ld (some 3) (.tmp 5), none⟩,
  ⟨(some 19), .fad 1 (.tmp 5), none⟩,
  ⟨(some 20), .ld none (.tmp 19), none⟩,
  ⟨(some 15), .rcall (.func 99) [(.tmp 14)], none⟩,
  ⟨(some 16), .bin .sub (.tmp 15) (.const (.int .i64 1)), none⟩,
  ⟨(some 17), .iad 1 (.tmp 13) (.tmp 16), none⟩,
  ⟨(some 18), .ld none (.tmp 17), none⟩,
  ⟨(some 21), .bin .add (.tmp 18) (.tmp 20), none⟩,
  ⟨(some 22), .iad 1 (.tmp 13) (.tmp 16), none⟩,
  ⟨none, .st 1 (.tmp 22) (.tmp 21), none⟩])))
 (.reg [⟨(some 23), .bin .add (.tmp 9) (.const (.int .i64 1)), none⟩,
  ⟨(some 9), .mv (.tmp 23), none⟩])))))))
 (.seq (.reg [⟨(some 24), .mv (.tmp 3), none⟩,
  ⟨(some 2), .mv (.tmp 24), none⟩])
 (.ret))))
def r_impl_arrivalsOf : List ARes := [.tmp 2]
theorem ok_impl_arrivalsOf : FnOk Try.prog 89 25 c_impl_arrivalsOf r_impl_arrivalsOf := ⟨⟨Try.f89, _, Try.func89, by kernel_rfl, rfl, rfl, by kernel_rfl, by kernel_rfl⟩⟩
def c_impl_courseOf : ACode := .seq (.reg [⟨(some 6), .mv (.const (.slice none 0 0)), none⟩,
  ⟨(some 7), .mv (.const (.bool false)), none⟩])
 (.seq (.reg [⟨(some 12), .mv (.tmp 0), none⟩,
  ⟨(some 13), .bsl 3 1 1 [(.int .i64 0)] [(0, 1, (.tmp 12))], none⟩,
  ⟨(some 8), .mv (.tmp 13), none⟩])
 (.seq (.seq (.reg [⟨(some 14), .mv (.tmp 1), none⟩,
  ⟨(some 15), .mv (.const (.int .i64 0)), none⟩])
 (.block 0 (.loop (.seq (.reg [⟨(some 16), .bin .lss (.tmp 15) (.tmp 14), none⟩])
 (.seq (.cond (.tmp 16) (.skip) (.exit 0))
 (.seq (.block 1 (.seq (.reg [⟨(some 17), .mv (.tmp 15), none⟩,
  ⟨(some 9), .mv (.tmp 17), none⟩])
 (.seq (.reg [⟨(some 19), .mv (.tmp 2), none⟩,
  ⟨(some 20), .mv (.tmp 8), none⟩,
  ⟨(some 21), .mv (.tmp 9), none⟩,
  ⟨(some 22), .iad 1 (.tmp 20) (.tmp 21), none⟩,
  ⟨(some 23), .ld none (.tmp 22), none⟩,
  ⟨(some 24), .mv (.tmp 9), none⟩,
  ⟨(some 25), .call (.tmp 19) [(.tmp 23), (.tmp 24)], none⟩,
  ⟨(some 18), .mv (.tmp 25), none⟩,
  ⟨(some 26), .ext 0 (.tmp 18), none⟩,
  ⟨(some 27), .ext 1 (.tmp 18), none⟩,
  ⟨(some 10), .mv (.tmp 26), none⟩,
  ⟨(some 11), .mv (.tmp 27), none⟩])
 (.seq (.seq (.reg [⟨(some 28), .mv (.tmp 11), none⟩,
  ⟨(some 29), .un .not (.tmp 28), none⟩])
 (.cond (.tmp 29) (.seq (.reg [⟨(some 30), .bsl 3 1 0 [] [], none⟩,
  ⟨(some 6), .mv (.tmp 30), none⟩,
  ⟨(some 7), .mv (.const (.bool false)), none⟩])
 (.ret)) (.skip)))
 (.reg [⟨(some 31), .mv (.tmp 8), none⟩,
  ⟨(some 32), .mv (.tmp 10), none⟩,
  ⟨(some 33), .bsl 3 1 1 [(.int .i64 0)] [(0, 1, (.tmp 32))], none⟩,
  ⟨(some 34), .app 3 1 8 (.tmp 31) (.tmp 33), none⟩,
  ⟨(some 8), .mv (.tmp 34), none⟩])))))
 (.reg [⟨(some 35), .bin .add (.tmp 15) (.const (.int .i64 1)), none⟩,
  ⟨(some 15), .mv (.tmp 35), none⟩])))))))
 (.seq (.reg [⟨(some 36), .mv (.tmp 8), none⟩,
  ⟨(some 6), .mv (.tmp 36), none⟩,
  ⟨(some 7), .mv (.const (.bool true)), none⟩])
 (.ret))))
def r_impl_courseOf : List ARes := [.tmp 6, .tmp 7]
theorem ok_impl_courseOf : FnOk Try.prog 90 37 c_impl_courseOf r_impl_courseOf := ⟨⟨Try.f90, _, Try.func90, by kernel_rfl, rfl, rfl, by kernel_rfl, by kernel_rfl⟩⟩
def c_impl_ParcelStocks_1 : ACode := .seq (.reg [⟨(some 6), .mv (.const (.int .i64 0)), none⟩,
  ⟨(some 7), .mv (.const (.bool false)), none⟩])
 (.seq (.reg [⟨(some 8), .mv (.tmp 0), none⟩,
  ⟨(some 9), .ld none (.tmp 2), none⟩,
  ⟨(some 10), .mv (.tmp 1), none⟩,
  ⟨(some 11), .iad 1 (.tmp 9) (.tmp 10), none⟩,
  ⟨(some 12), .ld none (.tmp 11), none⟩,
  ⟨(some 13), .bin .add (.tmp 8) (.tmp 12), none⟩,
  ⟨(some 14), .ld none (.tmp 3), none⟩,
  ⟨(some 15), .mv (.tmp 1), none⟩,
  ⟨(some 16), .iad 1 (.tmp 14) (.tmp 15), none⟩,
  ⟨(some 17), .ld none (.tmp 16), none⟩,
  ⟨(some 18), .bin .sub (.tmp 13) (.tmp 17), none⟩,
  ⟨(some 6), .mv (.tmp 18), none⟩,
  ⟨(some 7), .mv (.const (.bool true)), none⟩])
 (.ret))
def r_impl_ParcelStocks_1 : List ARes := [.tmp 6, .tmp 7]
theorem ok_impl_ParcelStocks_1 : FnOk Try.prog 91 19 c_impl_ParcelStocks_1 r_impl_ParcelStocks_1 := ⟨⟨Try.f91, _, Try.func91, by kernel_rfl, rfl, rfl, by kernel_rfl, by kernel_rfl⟩⟩
def c_spec_l11Parcels : ACode := .seq (.reg [⟨(some 2), .mv (.const (.bool false)), none⟩])
 (.seq (.seq (.reg [⟨(some 3), .mv (.const (.int .i64 0)), none⟩])
 (.block 0 (.loop (.seq (.seq (.reg [⟨(some 5), .mv (.tmp 3), none⟩,
  ⟨(some 6), .mv (.tmp 0), none⟩,
  ⟨(some 7), .len (.tmp 6), none⟩,
  ⟨(some 8), .bin .lss (.tmp 5) (.tmp 7), none⟩])
 (.cond (.tmp 8) (.skip) (.exit 0)))
 (.seq (.block 1 (.seq (.reg [⟨(some 11), .mv (.tmp 0), none⟩,
  ⟨(some 12), .mv (.tmp 3), none⟩,
  ⟨(some 13), .iad 3 (.tmp 11) (.tmp 12), none⟩,
  ⟨(some 14), .ld (some 3) (.tmp 13), none⟩,
  ⟨(some 4), .alc 66 [(.int .i64 0), (.int .i64 0), (.int .i64 0)], none⟩,
  ⟨none, .st 3 (.tmp 4) (.tmp 14), none⟩])
 (.seq (.reg [⟨(some 15), .fad 0 (.tmp 4), none⟩,
  ⟨(some 16), .ld none (.tmp 15), none⟩,
  ⟨(some 17), .rcall (.func 73) [(.tmp 16), (.const (.int .i64 1)), (.const (.int .i64 20))], none⟩,
  ⟨(some 18), .un .not (.tmp 17), none⟩,
  ⟨(some 19), .mv (.tmp 18), none⟩,
  ⟨(some 20), .fad 1 (.tmp 4), (some (19, false))⟩,
  ⟨(some 21), .ld none (.tmp 20), (some (19, false))⟩,
  ⟨(some 22), .rcall (.func 73) [(.tmp 21), (.const (.int .i64 1)), (.const (.int .i64 40))], (some (19, false))⟩,
  ⟨(some 23), .un .not (.tmp 22), (some (19, false))⟩,
  ⟨(some 24), .pick (.tmp 19) (.const (.bool true)) (.tmp 23), none⟩,
  ⟨(some 25), .mv (.tmp 24), none⟩,
  ⟨(some 26), .fad 2 (.tmp 4), (some (25, false))⟩,
  ⟨(some 27), .ld none (.tmp 26), (some (25, false))⟩,
  ⟨(some 28), .rcall (.func 73) [(.tmp 27), (.const (.int .i64 0)), (.const (.int .i64 4))], (some (25, false))⟩,
  ⟨(some 29), .un .not (.tmp 28), (some (25, false))⟩,
  ⟨(some 30), .pick (.tmp 25) (.const (.bool true)) (.tmp 29), none⟩,
  ⟨(some 31), .mv (.tmp 30), none⟩,
  ⟨(some 32), .mv (.tmp 3), (some (31, false))⟩,
  ⟨(some 33), .bin .gtr (.tmp 32) (.const (.int .i64 0)), (some (31, false))⟩,
  ⟨(some 34), .mv (.tmp 33), (some (31, false))⟩,
  ⟨(some 35), .mv (.tmp 0), (some (34, true))⟩,
  ⟨(some 36), .mv (.tmp 3), (some (34, true))⟩,
  ⟨(some 37), .bin .sub (.tmp 36) (.const (.int .i64 1)), (some (34, true))⟩,
  ⟨(some 38), .iad 3 (.tmp 35) (.tmp 37), (some (34, true))⟩,
  ⟨(some 39), .fad 0 (.tmp 38), (some (34, true))⟩,
  ⟨(some 40), .ld none (.tmp 39), (some (34, true))⟩,
  ⟨(some 41), .fad 0 (.tmp 4), (some (34, true))⟩,
  ⟨(some 42), .ld none (.tmp 41), (some (34, true))⟩,
  ⟨(some 43), .bin .gtr (.tmp 40) (.tmp 42), (some (34, true))⟩,
  ⟨(some 44), .pick (.tmp 34) (.tmp 43) (.const (.bool false)), (some (31, false))⟩,
  ⟨(some 45), .pick (.tmp 31) (.const (.bool true)) (.tmp 44), none⟩])
 (.cond (.tmp 45) (.seq (.reg [⟨(some 2), .mv (.const (.bool false)), none⟩])
 (.ret)) (.skip)))))
 (.reg [⟨(some 9), .mv (.tmp 3), none⟩,
  ⟨(some 10), .bin .add (.tmp 9) (.const (.int .i64 1)), none⟩,
  ⟨(some 3), .mv (.tmp 10), none⟩]))))))
 (.seq (.reg [⟨(some 46), .mv (.tmp 0), none⟩,
  ⟨(some 47), .len (.tmp 46), none⟩,
  ⟨(some 48), .bin .leq (.tmp 47) (.const (.int .i64 12)), none⟩,
  ⟨(some 2), .mv (.tmp 48), none⟩])
 (.ret)))
def r_spec_l11Parcels : List ARes := [.tmp 2]
theorem ok_spec_l11Parcels : FnOk Try.prog 92 49 c_spec_l11Parcels r_spec_l11Parcels := ⟨⟨Try.f92, _, Try.func92, by kernel_rfl, rfl, rfl, by kernel_rfl, by kernel_rfl⟩⟩
def c_spec_l11Numbers : ACode := .seq (.reg [⟨(some 6), .mv (.const (.bool false)), none⟩])
 (.seq (.reg [⟨(some 7), .mv (.tmp 0), none⟩,
  ⟨(some 8), .len (.tmp 7), none⟩,
  ⟨(some 9), .mv (.tmp 1), none⟩,
  ⟨(some 10), .bin .leq (.tmp 8) (.tmp 9), none⟩,
  ⟨(some 11), .mv (.tmp 10), none⟩,
  ⟨(some 12), .mv (.tmp 0), (some (11, true))⟩,
  ⟨(some 13), .mv (.tmp 0), (some (11, true))⟩,
  ⟨(some 14), .len (.tmp 13), (some (11, true))⟩,
  ⟨(some 15), .mv (.tmp 2), (some (11, true))⟩,
  ⟨(some 16), .call (.func 120) [(.tmp 12), (.tmp 14), (.tmp 15)], (some (11, true))⟩,
  ⟨(some 17), .pick (.tmp 11) (.tmp 16) (.const (.bool false)), none⟩,
  ⟨(some 6), .mv (.tmp 17), none⟩])
 (.ret))
def r_spec_l11Numbers : List ARes := [.tmp 6]
theorem ok_spec_l11Numbers : FnOk Try.prog 93 18 c_spec_l11Numbers r_spec_l11Numbers := ⟨⟨Try.f93, _, Try.func93, by kernel_rfl, rfl, rfl, by kernel_rfl, by kernel_rfl⟩⟩
def c_spec_l11Arrivals : ACode := .seq (.reg [⟨(some 2), .mv (.const (.slice none 0 0)), none⟩])
 (.seq (.reg [⟨(some 6), .mks 3 8 [(.int .i64 0)] (.const (.int .i64 24)) (.const (.int .i64 24)), none⟩,
  ⟨(some 3), .mv (.tmp 6), none⟩])
 (.seq (.seq (.reg [⟨(some 4), .mv (.const (.int .i64 0)), none⟩])
 (.block 0 (.loop (.seq (.seq (.reg [⟨(some 7), .mv (.tmp 4), none⟩,
  ⟨(some 8), .mv (.tmp 0), none⟩,
  ⟨(some 9), .len (.tmp 8), none⟩,
  ⟨(some 10), .bin .lss (.tmp 7) (.tmp 9), none⟩])
 (.cond (.tmp 10) (.skip) (.exit 0)))
 (.seq (.block 1 (.seq (.reg [⟨(some 13), .mv (.tmp 0), none⟩,
  ⟨(some 14), .mv (.tmp 4), none⟩,
  ⟨(some 15), .iad 3 (.tmp 13) (.tmp 14), none⟩,
  ⟨(some 16), .fad 0 (.tmp 15), none⟩,
  ⟨(some 17), .ld none (.tmp 16), none⟩,
  ⟨(some 18), .mv (.tmp 0), none⟩,
  ⟨(some 19), .mv (.tmp 4), none⟩,
  ⟨(some 20), .iad 3 (.tmp 18) (.tmp 19), none⟩,
  ⟨(some 21), .fad 2 (.tmp 20), none⟩,
  ⟨(some 22), .ld none (.tmp 21), none⟩,
  ⟨(some 23), .bin .add (.tmp 17) (.tmp 22), none⟩,
  ⟨(some 5), .mv (.tmp 23), none⟩])
 (.reg [⟨(some 24), .mv (.tmp 3), none⟩,
  ⟨(some 25), .mv (.tmp 5), none⟩,
  ⟨(some 26), .bin .sub (.tmp 25) (.const (.int .i64 1)), none⟩,
  ⟨(some 27), .mv (.tmp 3), none⟩,
  ⟨(some 28), .mv (.tmp 5), none⟩,
  ⟨(some 29), .bin .sub (.tmp 28) (.const (.int .i64 1)), none⟩,
  ⟨(some 30), .iad 1 (.tmp 27) (.tmp 29), none⟩,
  ⟨(some 31), .ld none (.tmp 30), none⟩,
  ⟨(some 32), .mv (.tmp 0), none⟩,
  ⟨(some 33), .mv (.tmp 4), none⟩,
  ⟨(some 34), .iad 3 (.tmp 32) (.tmp 33), none⟩,
  ⟨(some 35), .fad 1 (.tmp 34), none⟩,
  ⟨(some 36), .ld none (.tmp 35), none⟩,
  ⟨(some 37), .bin .add (.tmp 31) (.tmp 36), none⟩,
  ⟨(some 38), .iad 1 (.tmp 24) (.tmp 26), none⟩,
  ⟨none, .st 1 (.tmp 38) (.tmp 37), none⟩])))
 (.reg [⟨(some 11), .mv (.tmp 4), none⟩,
  ⟨(some 12), .bin .add (.tmp 11) (.const (.int .i64 1)), none⟩,
  ⟨(some 4), .mv (.tmp 12), none⟩]))))))
 (.seq (.reg [⟨(some 39), .mv (.tmp 3), none⟩,
  ⟨(some 2), .mv (.tmp 39), none⟩])
 (.ret))))
def r_spec_l11Arrivals : List ARes := [.tmp 2]
theorem ok_spec_l11Arrivals : FnOk Try.prog 94 40 c_spec_l11Arrivals r_spec_l11Arrivals := ⟨⟨Try.f94, _, Try.func94, by kernel_rfl, rfl, rfl, by kernel_rfl, by kernel_rfl⟩⟩
def c_impl_StraightLeads_1 : ACode := .seq (.reg [⟨(some 2), .box 66 (.tmp 0), none⟩,
  ⟨(some 3), .mv (.const (.bool false)), none⟩])
 (.seq (.reg [⟨(some 4), .fad 1 (.tmp 2), none⟩,
  ⟨(some 5), .ld none (.tmp 4), none⟩,
  ⟨(some 6), .ld none (.tmp 1), none⟩,
  ⟨(some 7), .iad 3 (.tmp 6) (.const (.int .i64 0)), none⟩,
  ⟨(some 8), .fad 1 (.tmp 7), none⟩,
  ⟨(some 9), .ld none (.tmp 8), none⟩,
  ⟨(some 10), .bin .neq (.tmp 5) (.tmp 9), none⟩,
  ⟨(some 3), .mv (.tmp 10), none⟩])
 (.ret))
def r_impl_StraightLeads_1 : List ARes := [.tmp 3]
theorem ok_impl_StraightLeads_1 : FnOk Try.prog 96 11 c_impl_StraightLeads_1 r_impl_StraightLeads_1 := ⟨⟨Try.f96, _, Try.func96, by kernel_rfl, rfl, rfl, by kernel_rfl, by kernel_rfl⟩⟩
def c_slices_ContainsFunc_Parcel : ACode := .seq (.reg [⟨(some 4), .mv (.const (.bool false)), none⟩])
 (.seq (.reg [⟨(some 5), .mv (.tmp 0), none⟩,
  ⟨(some 6), .mv (.tmp 1), none⟩,
  ⟨(some 7), .call (.func 121) [(.tmp 5), (.tmp 6)], none⟩,
  ⟨(some 8), .bin .geq (.tmp 7) (.const (.int .i64 0)), none⟩,
  ⟨(some 4), .mv (.tmp 8), none⟩])
 (.ret))
def r_slices_ContainsFunc_Parcel : List ARes := [.tmp 4]
theorem ok_slices_ContainsFunc_Parcel : FnOk Try.prog 97 9 c_slices_ContainsFunc_Parcel r_slices_ContainsFunc_Parcel := ⟨⟨Try.f97, _, Try.func97, by kernel_rfl, rfl, rfl, by kernel_rfl, by kernel_rfl⟩⟩
def c_impl_each_Parcel : ACode := .seq (.reg [⟨(some 4), .mv (.const (.slice none 0 0)), none⟩])
 (.seq (.reg [⟨(some 8), .bsl 3 1 0 [] [], none⟩,
  ⟨(some 5), .mv (.tmp 8), none⟩])
 (.seq (.seq (.reg [⟨(some 9), .mv (.tmp 0), none⟩,
  ⟨(some 10), .len (.tmp 9), none⟩,
  ⟨(some 11), .mv (.const (.int .i64 0)), none⟩])
 (.block 0 (.loop (.seq (.reg [⟨(some 12), .bin .lss (.tmp 11) (.tmp 10), none⟩])
 (.seq (.cond (.tmp 12) (.skip) (.exit 0))
 (.seq (.block 1 (.seq (.reg [⟨(some 13), .iad 3 (.tmp 9) (.tmp 11), none⟩,
  ⟨(some 14), .ld (some 3) (.tmp 13), none⟩,
  ⟨(some 7), .alc 66 [(.int .i64 0), (.int .i64 0), (.int .i64 0)], none⟩,
  ⟨none, .st 3 (.tmp 7) (.tmp 14), none⟩])
 (.reg [⟨(some 15), .mv (.tmp 5), none⟩,
  ⟨(some 16), .mv (.tmp 1), none⟩,
  ⟨(some 17), .ld (some 3) (.tmp 7), none⟩,
  ⟨(some 18), .call (.tmp 16) [(.tmp 17)], none⟩,
  ⟨(some 19), .bsl 3 1 1 [(.int .i64 0)] [(0, 1, (.tmp 18))], none⟩,
  ⟨(some 20), .app 3 1 8 (.tmp 15) (.tmp 19), none⟩,
  ⟨(some 5), .mv (.tmp 20), none⟩])))
 (.reg [⟨(some 21), .bin .add (.tmp 11) (.const (.int .i64 1)), none⟩,
  ⟨(some 11), .mv (.tmp 21), none⟩])))))))
 (.seq (.reg [⟨(some 22), .mv (.tmp 5), none⟩,
  ⟨(some 4), .mv (.tmp 22), none⟩])
 (.ret))))
def r_impl_each_Parcel : List ARes := [.tmp 4]
theorem ok_impl_each_Parcel : FnOk Try.prog 98 23 c_impl_each_Parcel r_impl_each_Parcel := ⟨⟨Try.f98, _, Try.func98, by kernel_rfl, rfl, rfl, by kernel_rfl, by kernel_rfl⟩⟩
def c_impl_arrivalOf : ACode := .seq (.reg [⟨(some 1), .box 66 (.tmp 0), none⟩,
  ⟨(some 2), .mv (.const (.int .i64 0)), none⟩])
 (.seq (.reg [⟨(some 3), .fad 0 (.tmp 1), none⟩,
  ⟨(some 4), .ld none (.tmp 3), none⟩,
  ⟨(some 5), .fad 2 (.tmp 1), none⟩,
  ⟨(some 6), .ld none (.tmp 5), none⟩,
  ⟨(some 7), .bin .add (.tmp 4) (.tmp 6), none⟩,
  ⟨(some 2), .mv (.tmp 7), none⟩])
 (.ret))
def r_impl_arrivalOf : List ARes := [.tmp 2]
theorem ok_impl_arrivalOf : FnOk Try.prog 99 8 c_impl_arrivalOf r_impl_arrivalOf := ⟨⟨Try.f99, _, Try.func99, by kernel_rfl, rfl, rfl, by kernel_rfl, by kernel_rfl⟩⟩
def c_slices_Sort : ACode := .seq (.reg [⟨(some 3), .mv (.tmp 0), none⟩,
  ⟨(some 4), .len (.tmp 3), none⟩,
  ⟨(some 2), .mv (.tmp 4), none⟩])
 (.reg [⟨(some 5), .mv (.tmp 0), none⟩,
  ⟨(some 6), .mv (.tmp 2), none⟩,
  ⟨(some 7), .mv (.tmp 2), none⟩,
  ⟨(some 8), .conv .u64 (.tmp 7), none⟩,
  ⟨(some 9), .call (.func 123) [(.tmp 8)], none⟩,
  ⟨(some 10), .call (.func 122) [(.tmp 5), (.const (.int .i64 0)), (.tmp 6), (.tmp 9)], none⟩])
def r_slices_Sort : List ARes := []
theorem ok_slices_Sort : FnOk Try.prog 100 11 c_slices_Sort r_slices_Sort := ⟨⟨Try.f100, _, Try.func100, by kernel_rfl, rfl, rfl, by kernel_rfl, by kernel_rfl⟩⟩
def c_impl_isCrossed : ACode := .seq (.reg [⟨(some 2), .box 66 (.tmp 0), none⟩,
  ⟨(some 3), .box 66 (.tmp 1), none⟩,
  ⟨(some 4), .mv (.const (.bool false)), none⟩])
 (.seq (.reg [⟨(some 5), .fad 0 (.tmp 2), none⟩,
  ⟨(some 6), .ld none (.tmp 5), none⟩,
  ⟨(some 7), .fad 0 (.tmp 3), none⟩,
  ⟨(some 8), .ld none (.tmp 7), none⟩,
  ⟨(some 9), .bin .lss (.tmp 6) (.tmp 8), none⟩,
  ⟨(some 10), .mv (.tmp 9), none⟩,
  ⟨(some 11), .ld (some 3) (.tmp 3), (some (10, true))⟩,
  ⟨(some 13), .ld (some 3) (.tmp 2), (some (10, true))⟩,
  ⟨(some 12), .rcall (.func 99) [(.tmp 11)], (some (10, true))⟩,
  ⟨(some 14), .rcall (.func 99) [(.tmp 13)], (some (10, true))⟩,
  ⟨(some 15), .bin .lss (.tmp 12) (.tmp 14), (some (10, true))⟩,
  ⟨(some 16), .pick (.tmp 10) (.tmp 15) (.const (.bool false)), none⟩,
  ⟨(some 4), .mv (.tmp 16), none⟩])
 (.ret))
def r_impl_isCrossed : List ARes := [.tmp 4]
theorem ok_impl_isCrossed : FnOk Try.prog 101 17 c_impl_isCrossed r_impl_isCrossed := ⟨⟨Try.f101, _, Try.func101, by kernel_rfl, rfl, rfl, by kernel_rfl, by kernel_rfl⟩⟩
def c_impl_isCount : ACode := .seq (.reg [⟨(some 4), .mv (.const (.bool false)), none⟩])
 (.seq (.reg [⟨(some 5), .mv (.tmp 0), none⟩,
  ⟨(some 6), .bin .gtr (.tmp 5) (.const (.int .i64 0)), none⟩,
  ⟨(some 7), .mv (.tmp 6), none⟩,
  ⟨(some 8), .mv (.tmp 0), (some (7, true))⟩,
  ⟨(some 9), .mv (.tmp 1), (some (7, true))⟩,
  ⟨(some 10), .call (.func 68) [(.tmp 8), (.tmp 9)], (some (7, true))⟩,
  ⟨(some 11), .pick (.tmp 7) (.tmp 10) (.const (.bool false)), none⟩,
  ⟨(some 4), .mv (.tmp 11), none⟩])
 (.ret))
def r_impl_isCount : List ARes := [.tmp 4]
theorem ok_impl_isCount : FnOk Try.prog 109 12 c_impl_isCount r_impl_isCount := ⟨⟨Try.f109, _, Try.func109, by kernel_rfl, rfl, rfl, by kernel_rfl, by kernel_rfl⟩⟩
def c_impl_isNear : ACode := .seq (.reg [⟨(some 4), .mv (.const (.bool false)), none⟩])
 (.seq (.reg [⟨(some 5), .mv (.tmp 0), none⟩,
  ⟨(some 6), .mv (.tmp 1), none⟩,
  ⟨(some 7), .un .neg (.tmp 6), none⟩,
  ⟨(some 8), .bin .geq (.tmp 5) (.tmp 7), none⟩,
  ⟨(some 9), .mv (.tmp 8), none⟩,
  ⟨(some 10), .mv (.tmp 0), (some (9, true))⟩,
  ⟨(some 11), .mv (.tmp 1), (some (9, true))⟩,
  ⟨(some 12), .bin .leq (.tmp 10) (.tmp 11), (some (9, true))⟩,
  ⟨(some 13), .pick (.tmp 9) (.tmp 12) (.const (.bool false)), none⟩,
  ⟨(some 4), .mv (.tmp 13), none⟩])
 (.ret))
def r_impl_isNear : List ARes := [.tmp 4]
theorem ok_impl_isNear : FnOk Try.prog 112 14 c_impl_isNear r_impl_isNear := ⟨⟨Try.f112, _, Try.func112, by kernel_rfl, rfl, rfl, by kernel_rfl, by kernel_rfl⟩⟩
def c_impl_areAtMost_1 : ACode := .seq (.reg [⟨(some 3), .mv (.const (.bool false)), none⟩])
 (.seq (.reg [⟨(some 4), .ld none (.tmp 1), none⟩,
  ⟨(some 5), .mv (.tmp 0), none⟩,
  ⟨(some 6), .call (.tmp 4) [(.tmp 5)], none⟩,
  ⟨(some 7), .un .not (.tmp 6), none⟩,
  ⟨(some 3), .mv (.tmp 7), none⟩])
 (.ret))
def r_impl_areAtMost_1 : List ARes := [.tmp 3]
theorem ok_impl_areAtMost_1 : FnOk Try.prog 113 8 c_impl_areAtMost_1 r_impl_areAtMost_1 := ⟨⟨Try.f113, _, Try.func113, by kernel_rfl, rfl, rfl, by kernel_rfl, by kernel_rfl⟩⟩
def c_slices_ContainsFunc : ACode := .seq (.reg [⟨(some 4), .mv (.const (.bool false)), none⟩])
 (.seq (.reg [⟨(some 5), .mv (.tmp 0), none⟩,
  ⟨(some 6), .mv (.tmp 1), none⟩,
  ⟨(some 7), .call (.func 126) [(.tmp 5), (.tmp 6)], none⟩,
  ⟨(some 8), .bin .geq (.tmp 7) (.const (.int .i64 0)), none⟩,
  ⟨(some 4), .mv (.tmp 8), none⟩])
 (.ret))
def r_slices_ContainsFunc : List ARes := [.tmp 4]
theorem ok_slices_ContainsFunc : FnOk Try.prog 114 9 c_slices_ContainsFunc r_slices_ContainsFunc := ⟨⟨Try.f114, _, Try.func114, by kernel_rfl, rfl, rfl, by kernel_rfl, by kernel_rfl⟩⟩
def c_impl_areParcels_1 : ACode := .seq (.reg [⟨(some 2), .box 66 (.tmp 0), none⟩,
  ⟨(some 3), .box 66 (.tmp 1), none⟩,
  ⟨(some 4), .mv (.const (.int .i64 0)), none⟩])
 (.seq (.reg [⟨(some 5), .fad 0 (.tmp 2), none⟩,
  ⟨(some 6), .ld none (.tmp 5), none⟩,
  ⟨(some 7), .fad 0 (.tmp 3), none⟩,
  ⟨(some 8), .ld none (.tmp 7), none⟩,
  ⟨(some 9), .bin .sub (.tmp 6) (.tmp 8), none⟩,
  ⟨(some 4), .mv (.tmp 9), none⟩])
 (.ret))
def r_impl_areParcels_1 : List ARes := [.tmp 4]
theorem ok_impl_areParcels_1 : FnOk Try.prog 116 10 c_impl_areParcels_1 r_impl_areParcels_1 := ⟨⟨Try.f116, _, Try.func116, by kernel_rfl, rfl, rfl, by kernel_rfl, by kernel_rfl⟩⟩
def c_impl_areAtMost_Parcel : ACode := .seq (.reg [⟨(some 5), .box 118 (.tmp 2), none⟩,
  ⟨(some 6), .mv (.const (.bool false)), none⟩])
 (.seq (.reg [⟨(some 8), .mkf 127 [] [(.tmp 5)], none⟩,
  ⟨(some 7), .mv (.tmp 8), none⟩])
 (.seq (.reg [⟨(some 9), .mv (.tmp 1), none⟩,
  ⟨(some 10), .len (.tmp 9), none⟩,
  ⟨(some 11), .mv (.tmp 0), none⟩,
  ⟨(some 12), .bin .leq (.tmp 10) (.tmp 11), none⟩,
  ⟨(some 13), .mv (.tmp 12), none⟩,
  ⟨(some 14), .mv (.tmp 1), (some (13, true))⟩,
  ⟨(some 15), .mv (.tmp 7), (some (13, true))⟩,
  ⟨(some 16), .call (.func 97) [(.tmp 14), (.tmp 15)], (some (13, true))⟩,
  ⟨(some 17), .un .not (.tmp 16), (some (13, true))⟩,
  ⟨(some 18), .pick (.tmp 13) (.tmp 17) (.const (.bool false)), none⟩,
  ⟨(some 6), .mv (.tmp 18), none⟩])
 (.ret)))
def r_impl_areAtMost_Parcel : List ARes := [.tmp 6]
theorem ok_impl_areAtMost_Parcel : FnOk Try.prog 117 19 c_impl_areAtMost_Parcel r_impl_areAtMost_Parcel := ⟨⟨Try.f117, _, Try.func117, by kernel_rfl, rfl, rfl, by kernel_rfl, by kernel_rfl⟩⟩
def c_impl_isParcel : ACode := .seq (.reg [⟨(some 1), .box 66 (.tmp 0), none⟩,
  ⟨(some 2), .mv (.const (.bool false)), none⟩])
 (.seq (.reg [⟨(some 3), .fad 0 (.tmp 1), none⟩,
  ⟨(some 4), .ld none (.tmp 3), none⟩,
  ⟨(some 5), .call (.func 109) [(.tmp 4), (.const (.int .i64 20))], none⟩,
  ⟨(some 6), .mv (.tmp 5), none⟩,
  ⟨(some 7), .fad 1 (.tmp 1), (some (6, true))⟩,
  ⟨(some 8), .ld none (.tmp 7), (some (6, true))⟩,
  ⟨(some 9), .call (.func 109) [(.tmp 8), (.const (.int .i64 40))], (some (6, true))⟩,
  ⟨(some 10), .pick (.tmp 6) (.tmp 9) (.const (.bool false)), none⟩,
  ⟨(some 11), .mv (.tmp 10), none⟩,
  ⟨(some 12), .fad 2 (.tmp 1), (some (11, true))⟩,
  ⟨(some 13), .ld none (.tmp 12), (some (11, true))⟩,
  ⟨(some 14), .call (.func 68) [(.tmp 13), (.const (.int .i64 4))], (some (11, true))⟩,
  ⟨(some 15), .pick (.tmp 11) (.tmp 14) (.const (.bool false)), none⟩,
  ⟨(some 2), .mv (.tmp 15), none⟩])
 (.ret))
def r_impl_isParcel : List ARes := [.tmp 2]
theorem ok_impl_isParcel : FnOk Try.prog 118 16 c_impl_isParcel r_impl_isParcel := ⟨⟨Try.f118, _, Try.func118, by kernel_rfl, rfl, rfl, by kernel_rfl, by kernel_rfl⟩⟩
def c_slices_IsSortedFunc_Parcel : ACode := .seq (.reg [⟨(some 4), .mv (.const (.bool false)), none⟩])
 (.seq (.seq (.reg [⟨(some 6), .mv (.tmp 0), none⟩,
  ⟨(some 7), .len (.tmp 6), none⟩,
  ⟨(some 8), .bin .sub (.tmp 7) (.const (.int .i64 1)), none⟩,
  ⟨(some 5), .mv (.tmp 8), none⟩])
 (.block 0 (.loop (.seq (.seq (.reg [⟨(some 9), .mv (.tmp 5), none⟩,
  ⟨(some 10), .bin .gtr (.tmp 9) (.const (.int .i64 0)), none⟩])
 (.cond (.tmp 10) (.skip) (.exit 0)))
 (.seq (.block 1 (.seq (.reg [⟨(some 13), .mv (.tmp 1), none⟩,
  ⟨(some 14), .mv (.tmp 0), none⟩,
  ⟨(some 15), .mv (.tmp 5), none⟩,
  ⟨(some 16), .iad 3 (.tmp 14) (.tmp 15), none⟩,
  ⟨(some 17), .ld (some 3) (.tmp 16), none⟩,
  ⟨(some 18), .mv (.tmp 0), none⟩,
  ⟨(some 19), .mv (.tmp 5), none⟩,
  ⟨(some 20), .bin .sub (.tmp 19) (.const (.int .i64 1)), none⟩,
  ⟨(some 21), .iad 3 (.tmp 18) (.tmp 20), none⟩,
  ⟨(some 22), .ld (some 3) (.tmp 21), none⟩,
  ⟨(some 23), .rcall (.tmp 13) [(.tmp 17), (.tmp 22)], none⟩,
  ⟨(some 24), .bin .lss (.tmp 23) (.const (.int .i64 0)), none⟩])
 (.cond (.tmp 24) (.seq (.reg [⟨(some 4), .mv (.const (.bool false)), none⟩])
 (.ret)) (.skip))))
 (.reg [⟨(some 11), .mv (.tmp 5), none⟩,
  ⟨(some 12), .bin .sub (.tmp 11) (.const (.int .i64 1)), none⟩,
  ⟨(some 5), .mv (.tmp 12), none⟩]))))))
 (.seq (.reg [⟨(some 4), .mv (.const (.bool true)), none⟩])
 (.ret)))
def r_slices_IsSortedFunc_Parcel : List ARes := [.tmp 4]
theorem ok_slices_IsSortedFunc_Parcel : FnOk Try.prog 119 25 c_slices_IsSortedFunc_Parcel r_slices_IsSortedFunc_Parcel := ⟨⟨Try.f119, _, Try.func119, by kernel_rfl, rfl, rfl, by kernel_rfl, by kernel_rfl⟩⟩
def c_spec_l2Row : ACode := .seq (.reg [⟨(some 6), .mv (.const (.bool false)), none⟩])
 (.seq (.seq (.reg [⟨(some 7), .mv (.const (.int .i64 0)), none⟩])
 (.block 0 (.loop (.seq (.seq (.reg [⟨(some 8), .mv (.tmp 7), none⟩,
  ⟨(some 9), .mv (.tmp 0), none⟩,
  ⟨(some 10), .len (.tmp 9), none⟩,
  ⟨(some 11), .bin .lss (.tmp 8) (.tmp 10), none⟩])
 (.cond (.tmp 11) (.skip) (.exit 0)))
 (.seq (.block 1 (.seq (.reg [⟨(some 14), .mv (.tmp 0), none⟩,
  ⟨(some 15), .mv (.tmp 7), none⟩,
  ⟨(some 16), .iad 1 (.tmp 14) (.tmp 15), none⟩,
  ⟨(some 17), .ld none (.tmp 16), none⟩,
  ⟨(some 18), .mv (.tmp 2), none⟩,
  ⟨(some 19), .call (.func 73) [(.tmp 17), (.const (.int .i64 0)), (.tmp 18)], none⟩,
  ⟨(some 20), .un .not (.tmp 19), none⟩])
 (.cond (.tmp 20) (.seq (.reg [⟨(some 6), .mv (.const (.bool false)), none⟩])
 (.ret)) (.skip))))
 (.reg [⟨(some 12), .mv (.tmp 7), none⟩,
  ⟨(some 13), .bin .add (.tmp 12) (.const (.int .i64 1)), none⟩,
  ⟨(some 7), .mv (.tmp 13), none⟩]))))))
 (.seq (.reg [⟨(some 21), .mv (.tmp 0), none⟩,
  ⟨(some 22), .len (.tmp 21), none⟩,
  ⟨(some 23), .mv (.tmp 1), none⟩,
  ⟨(some 24), .bin .eql (.tmp 22) (.tmp 23), none⟩,
  ⟨(some 6), .mv (.tmp 24), none⟩])
 (.ret)))
def r_spec_l2Row : List ARes := [.tmp 6]
theorem ok_spec_l2Row : FnOk Try.prog 120 25 c_spec_l2Row r_spec_l2Row := ⟨⟨Try.f120, _, Try.func120, by kernel_rfl, rfl, rfl, by kernel_rfl, by kernel_rfl⟩⟩
def c_slices_IndexFunc_Parcel : ACode := .seq (.reg [⟨(some 4), .mv (.const (.int .i64 0)), none⟩])
 (.seq (.seq (.reg [⟨(some 6), .mv (.tmp 0), none⟩,
  ⟨(some 7), .len (.tmp 6), none⟩,
  ⟨(some 8), .mv (.const (.int .i64 0)), none⟩])
 (.block 0 (.loop (.seq (.reg [⟨(some 9), .bin .lss (.tmp 8) (.tmp 7), none⟩])
 (.seq (.cond (.tmp 9) (.skip) (.exit 0))
 (.seq (.block 1 (.seq (.reg [⟨(some 10), .mv (.tmp 8), none⟩,
  ⟨(some 5), .mv (.tmp 10), none⟩])
 (.seq (.reg [⟨(some 11), .mv (.tmp 1), none⟩,
  ⟨(some 12), .mv (.tmp 0), none⟩,
  ⟨(some 13), .mv (.tmp 5), none⟩,
  ⟨(some 14), .iad 3 (.tmp 12) (.tmp 13), none⟩,
  ⟨(some 15), .ld (some 3) (.tmp 14), none⟩,
  ⟨(some 16), .call (.tmp 11) [(.tmp 15)], none⟩])
 (.cond (.tmp 16) (.seq (.reg [⟨(some 17), .mv (.tmp 5), none⟩,
  ⟨(some 4), .mv (.tmp 17), none⟩])
 (.ret)) (.skip)))))
 (.reg [⟨(some 18), .bin .add (.tmp 8) (.const (.int .i64 1)), none⟩,
  ⟨(some 8), .mv (.tmp 18), none⟩])))))))
 (.seq (.reg [⟨(some 4), .mv (.const (.int .i64 (-1))), none⟩])
 (.ret)))
def r_slices_IndexFunc_Parcel : List ARes := [.tmp 4]
theorem ok_slices_IndexFunc_Parcel : FnOk Try.prog 121 19 c_slices_IndexFunc_Parcel r_slices_IndexFunc_Parcel := ⟨⟨Try.f121, _, Try.func121, by kernel_rfl, rfl, rfl, by kernel_rfl, by kernel_rfl⟩⟩
def c_slices_pdqsortOrdered : ACode := .seq (.reg [⟨(some 8), .mv (.const (.bool true)), none⟩])
 (.seq (.reg [⟨(some 9), .mv (.const (.bool true)), none⟩])
 (.block 0 (.loop (.block 1 (.seq (.reg [⟨(some 19), .mv (.tmp 2), none⟩,
  ⟨(some 20), .mv (.tmp 1), none⟩,
  ⟨(some 21), .bin .sub (.tmp 19) (.tmp 20), none⟩,
  ⟨(some 10), .mv (.tmp 21), none⟩])
 (.seq (.seq (.reg [⟨(some 22), .mv (.tmp 10), none⟩,
  ⟨(some 23), .bin .leq (.tmp 22) (.const (.int .i64 12)), none⟩])
 (.cond (.tmp 23) (.seq (.reg [⟨(some 24), .mv (.tmp 0), none⟩,
  ⟨(some 25), .mv (.tmp 1), none⟩,
  ⟨(some 26), .mv (.tmp 2), none⟩,
  ⟨(some 27), .call (.func 128) [(.tmp 24), (.tmp 25), (.tmp 26)], none⟩])
 (.ret)) (.skip)))
 (.seq (.seq (.reg [⟨(some 28), .mv (.tmp 3), none⟩,
  ⟨(some 29), .bin .eql (.tmp 28) (.const (.int .i64 0)), none⟩])
 (.cond (.tmp 29) (.seq (.reg [⟨(some 30), .mv (.tmp 0), none⟩,
  ⟨(some 31), .mv (.tmp 1), none⟩,
  ⟨(some 32), .mv (.tmp 2), none⟩,
  ⟨(some 33), .call (.func 129) [(.tmp 30), (.tmp 31), (.tmp 32)], none⟩])
 (.ret)) (.skip)))
 (.seq (.seq (.reg [⟨(some 34), .mv (.tmp 8), none⟩,
  ⟨(some 35), .un .not (.tmp 34), none⟩])
 (.cond (.tmp 35) (.seq (.reg [⟨(some 36), .mv (.tmp 0), none⟩,
  ⟨(some 37), .mv (.tmp 1), none⟩,
  ⟨(some 38), .mv (.tmp 2), none⟩,
  ⟨(some 39), .call (.func 130) [(.tmp 36), (.tmp 37), (.tmp 38)], none⟩])
 (.reg [⟨(some 40), .mv (.tmp 3), none⟩,
  ⟨(some 41), .bin .sub (.tmp 40) (.const (.int .i64 1)), none⟩,
  ⟨(some 3), .mv (.tmp 41), none⟩])) (.skip)))
 (.seq (.reg [⟨(some 43), .mv (.tmp 0), none⟩,
  ⟨(some 44), .mv (.tmp 1), none⟩,
  ⟨(some 45), .mv (.tmp 2), none⟩,
  ⟨(some 46), .call (.func 131) [(.tmp 43), (.tmp 44), (.tmp 45)], none⟩,
  ⟨(some 42), .mv (.tmp 46), none⟩,
  ⟨(some 47), .ext 0 (.tmp 42), none⟩,
  ⟨(some 48), .ext 1 (.tmp 42), none⟩,
  ⟨(some 11), .mv (.tmp 47), none⟩,
  ⟨(some 12), .mv (.tmp 48), none⟩])
 (.seq (.seq (.reg [⟨(some 49), .mv (.tmp 12), none⟩,
  ⟨(some 50), .bin .eql (.tmp 49) (.const (.int .i64 2)), none⟩])
 (.cond (.tmp 50) (.seq (.reg [⟨(some 51), .mv (.tmp 0), none⟩,
  ⟨(some 52), .mv (.tmp 1), none⟩,
  ⟨(some 53), .mv (.tmp 2), none⟩,
  ⟨(some 54), .call (.func 132) [(.tmp 51), (.tmp 52), (.tmp 53)], none⟩])
 (.seq (.reg [⟨(some 55), .mv (.tmp 2), none⟩,
  ⟨(some 56), .bin .sub (.tmp 55) (.const (.int .i64 1)), none⟩,
  ⟨(some 57), .mv (.tmp 11), none⟩,
  ⟨(some 58), .mv (.tmp 1), none⟩,
  ⟨(some 59), .bin .sub (.tmp 57) (.tmp 58), none⟩,
  ⟨(some 60), .bin .sub (.tmp 56) (.tmp 59), none⟩,
  ⟨(some 11), .mv (.tmp 60), none⟩])
 (.reg [⟨(some 12), .mv (.const (.int .i64 1)), none⟩]))) (.skip)))
 (.seq (.seq (.reg [⟨(some 61), .mv (.tmp 8), none⟩,
  ⟨(some 62), .mv (.tmp 61), none⟩,
  ⟨(some 63), .mv (.tmp 9), (some (62, true))⟩,
  ⟨(some 64), .pick (.tmp 62) (.tmp 63) (.const (.bool false)), none⟩,
  ⟨(some 65), .mv (.tmp 64), none⟩,
  ⟨(some 66), .mv (.tmp 12), (some (65, true))⟩,
  ⟨(some 67), .bin .eql (.tmp 66) (.const (.int .i64 1)), (some (65, true))⟩,
  ⟨(some 68), .pick (.tmp 65) (.tmp 67) (.const (.bool false)), none⟩])
 (.cond (.tmp 68) (.seq (.reg [⟨(some 69), .mv (.tmp 0), none⟩,
  ⟨(some 70), .mv (.tmp 1), none⟩,
  ⟨(some 71), .mv (.tmp 2), none⟩,
  ⟨(some 72), .call (.func 133) [(.tmp 69), (.tmp 70), (.tmp 71)], none⟩])
 (.cond (.tmp 72) (.ret) (.skip))) (.skip)))
 (.seq (.seq (.reg [⟨(some 73), .mv (.tmp 1), none⟩,
  ⟨(some 74), .bin .gtr (.tmp 73) (.const (.int .i64 0)), none⟩,
  ⟨(some 75), .mv (.tmp 74), none⟩,
  ⟨(some 76), .mv (.tmp 0), (some (75, true))⟩,
  ⟨(some 77), .mv (.tmp 1), (some (75, true))⟩,
  ⟨(some 78), .bin .sub (.tmp 77) (.const (.int .i64 1)), (some (75, true))⟩,
  ⟨(some 79), .iad 1 (.tmp 76) (.tmp 78), (some (75, true))⟩,
  ⟨(some 80), .ld none (.tmp 79), (some (75, true))⟩,
  ⟨(some 81), .mv (.tmp 0), (some (75, true))⟩,
  ⟨(some 82), .mv (.tmp 11), (some (75, true))⟩,
  ⟨(some 83), .iad 1 (.tmp 81) (.tmp 82), (some (75, true))⟩,
  ⟨(some 84), .ld none (.tmp 83), (some (75, true))⟩,
  ⟨(some 85), .rcall (.func 134) [(.tmp 80), (.tmp 84)], (some (75, true))⟩,
  ⟨(some 86), .un .not (.tmp 85), (some (75, true))⟩,
  ⟨(some 87), .pick (.tmp 75) (.tmp 86) (.const (.bool false)), none⟩])
 (.cond (.tmp 87) (.seq (.reg [⟨(some 88), .mv (.tmp 0), none⟩,
  ⟨(some 89), .mv (.tmp 1), none⟩,
  ⟨(some 90), .mv (.tmp 2), none⟩,
  ⟨(some 91), .mv (.tmp 11), none⟩,
  ⟨(some 92), .call (.func 135) [(.tmp 88), (.tmp 89), (.tmp 90), (.tmp 91)], none⟩,
  ⟨(some 13), .mv (.tmp 92), none⟩])
 (.seq (.reg [⟨(some 93), .mv (.tmp 13), none⟩,
  ⟨(some 1), .mv (.tmp 93), none⟩])
 (.exit 1))) (.skip)))
 (.seq (.reg [⟨(some 95), .mv (.tmp 0), none⟩,
  ⟨(some 96), .mv (.tmp 1), none⟩,
  ⟨(some 97), .mv (.tmp 2), none⟩,
  ⟨(some 98), .mv (.tmp 11), none⟩,
  ⟨(some 99), .call (.func 136) [(.tmp 95), (.tmp 96), (.tmp 97), (.tmp 98)], none⟩,
  ⟨(some 94), .mv (.tmp 99), none⟩,
  ⟨(some 100), .ext 0 (.tmp 94), none⟩,
  ⟨(some 101), .ext 1 (.tmp 94), none⟩,
  ⟨(some 14), .mv (.tmp 100), none⟩,
  ⟨(some 15), .mv (.tmp 101), none⟩])
 (.seq (.reg [⟨(some 102), .mv (.tmp 15), none⟩,
  ⟨(some 9), .mv (.tmp 102), none⟩])
 (.seq (.reg [⟨(some 103), .mv (.tmp 14), none⟩,
  ⟨(some 104), .mv (.tmp 1), none⟩,
  ⟨(some 105), .bin .sub (.tmp 103) (.tmp 104), none⟩,
  ⟨(some 106), .mv (.tmp 2), none⟩,
  ⟨(some 107), .mv (.tmp 14), none⟩,
  ⟨(some 108), .bin .sub (.tmp 106) (.tmp 107), none⟩,
  ⟨(some 16), .mv (.tmp 105), none⟩,
  ⟨(some 17), .mv (.tmp 108), none⟩])
 (.seq (.reg [⟨(some 109), .mv (.tmp 10), none⟩,
  ⟨(some 110), .bin .quo (.tmp 109) (.const (.int .i64 8)), none⟩,
  ⟨(some 18), .mv (.tmp 110), none⟩])
 (.seq (.reg [⟨(some 111), .mv (.tmp 16), none⟩,
  ⟨(some 112), .mv (.tmp 17), none⟩,
  ⟨(some 113), .bin .lss (.tmp 111) (.tmp 112), none⟩])
 (.cond (.tmp 113) (.seq (.reg [⟨(some 114), .mv (.tmp 16), none⟩,
  ⟨(some 115), .mv (.tmp 18), none⟩,
  ⟨(some 116), .bin .geq (.tmp 114) (.tmp 115), none⟩,
  ⟨(some 8), .mv (.tmp 116), none⟩])
 (.seq (.reg [⟨(some 117), .mv (.tmp 0), none⟩,
  ⟨(some 118), .mv (.tmp 1), none⟩,
  ⟨(some 119), .mv (.tmp 14), none⟩,
  ⟨(some 120), .mv (.tmp 3), none⟩,
  ⟨(some 121), .call (.func 122) [(.tmp 117), (.tmp 118), (.tmp 119), (.tmp 120)], none⟩])
 (.reg [⟨(some 122), .mv (.tmp 14), none⟩,
  ⟨(some 123), .bin .add (.tmp 122) (.const (.int .i64 1)), none⟩,
  ⟨(some 1), .mv (.tmp 123), none⟩]))) (.seq (.reg [⟨(some 124), .mv (.tmp 17), none⟩,
  ⟨(some 125), .mv (.tmp 18), none⟩,
  ⟨(some 126), .bin .geq (.tmp 124) (.tmp 125), none⟩,
  ⟨(some 8), .mv (.tmp 126), none⟩])
 (.seq (.reg [⟨(some 127), .mv (.tmp 0), none⟩,
  ⟨(some 128), .mv (.tmp 14), none⟩,
  ⟨(some 129), .bin .add (.tmp 128) (.const (.int .i64 1)), none⟩,
  ⟨(some 130), .mv (.tmp 2), none⟩,
  ⟨(some 131), .mv (.tmp 3), none⟩,
  ⟨(some 132), .call (.func 122) [(.tmp 127), (.tmp 129), (.tmp 130), (.tmp 131)], none⟩])
 (.reg [⟨(some 133), .mv (.tmp 14), none⟩,
  ⟨(some 2), .mv (.tmp 133), none⟩])))))))))))))))))))))
def r_slices_pdqsortOrdered : List ARes := []
theorem ok_slices_pdqsortOrdered : FnOk Try.prog 122 134 c_slices_pdqsortOrdered r_slices_pdqsortOrdered := ⟨⟨Try.f122, _, Try.func122, by kernel_rfl, rfl, rfl, by kernel_rfl, by kernel_rfl⟩⟩
def c_math_bits_Len : ACode := .seq (.reg [⟨(some 2), .mv (.const (.int .i64 0)), none⟩])
 (.seq (.cond (.const (.bool false)) (.seq (.reg [⟨(some 3), .mv (.tmp 0), none⟩,
  ⟨(some 4), .conv .u32 (.tmp 3), none⟩,
  ⟨(some 5), .call (.func 137) [(.tmp 4)], none⟩,
  ⟨(some 2), .mv (.tmp 5), none⟩])
 (.ret)) (.skip))
 (.seq (.reg [⟨(some 6), .mv (.tmp 0), none⟩,
  ⟨(some 7), .call (.func 138) [(.tmp 6)], none⟩,
  ⟨(some 2), .mv (.tmp 7), none⟩])
 (.ret)))
def r_math_bits_Len : List ARes := [.tmp 2]
theorem ok_math_bits_Len : FnOk Try.prog 123 8 c_math_bits_Len r_math_bits_Len := ⟨⟨Try.f123, _, Try.func123, by kernel_rfl, rfl, rfl, by kernel_rfl, by kernel_rfl⟩⟩
def c_slices_IndexFunc : ACode := .seq (.reg [⟨(some 4), .mv (.const (.int .i64 0)), none⟩])
 (.seq (.seq (.reg [⟨(some 6), .mv (.tmp 0), none⟩,
  ⟨(some 7), .len (.tmp 6), none⟩,
  ⟨(some 8), .mv (.const (.int .i64 0)), none⟩])
 (.block 0 (.loop (.seq (.reg [⟨(some 9), .bin .lss (.tmp 8) (.tmp 7), none⟩])
 (.seq (.cond (.tmp 9) (.skip) (.exit 0))
 (.seq (.block 1 (.seq (.reg [⟨(some 10), .mv (.tmp 8), none⟩,
  ⟨(some 5), .mv (.tmp 10), none⟩])
 (.seq (.reg [⟨(some 11), .mv (.tmp 1), none⟩,
  ⟨(some 12), .mv (.tmp 0), none⟩,
  ⟨(some 13), .mv (.tmp 5), none⟩,
  ⟨(some 14), .iad 1 (.tmp 12) (.tmp 13), none⟩,
  ⟨(some 15), .ld none (.tmp 14), none⟩,
  ⟨(some 16), .call (.tmp 11) [(.tmp 15)], none⟩])
 (.cond (.tmp 16) (.seq (.reg [⟨(some 17), .mv (.tmp 5), none⟩,
  ⟨(some 4), .mv (.tmp 17), none⟩])
 (.ret)) (.skip)))))
 (.reg [⟨(some 18), .bin .add (.tmp 8) (.const (.int .i64 1)), none⟩,
  ⟨(some 8), .mv (.tmp 18), none⟩])))))))
 (.seq (.reg [⟨(some 4), .mv (.const (.int .i64 (-1))), none⟩])
 (.ret)))
def r_slices_IndexFunc : List ARes := [.tmp 4]
theorem ok_slices_IndexFunc : FnOk Try.prog 126 19 c_slices_IndexFunc r_slices_IndexFunc := ⟨⟨Try.f126, _, Try.func126, by kernel_rfl, rfl, rfl, by kernel_rfl, by kernel_rfl⟩⟩
def c_impl_areAtMost_1_Parcel : ACode := .seq (.reg [⟨(some 2), .box 66 (.tmp 0), none⟩,
  ⟨(some 3), .mv (.const (.bool false)), none⟩])
 (.seq (.reg [⟨(some 4), .ld none (.tmp 1), none⟩,
  ⟨(some 5), .ld (some 3) (.tmp 2), none⟩,
  ⟨(some 6), .call (.tmp 4) [(.tmp 5)], none⟩,
  ⟨(some 7), .un .not (.tmp 6), none⟩,
  ⟨(some 3), .mv (.tmp 7), none⟩])
 (.ret))
def r_impl_areAtMost_1_Parcel : List ARes := [.tmp 3]
theorem ok_impl_areAtMost_1_Parcel : FnOk Try.prog 127 8 c_impl_areAtMost_1_Parcel r_impl_areAtMost_1_Parcel := ⟨⟨Try.f127, _, Try.func127, by kernel_rfl, rfl, rfl, by kernel_rfl, by kernel_rfl⟩⟩
def c_slices_insertionSortOrdered : ACode := .seq (.reg [⟨(some 8), .mv (.tmp 1), none⟩,
  ⟨(some 9), .bin .add (.tmp 8) (.const (.int .i64 1)), none⟩,
  ⟨(some 6), .mv (.tmp 9), none⟩])
 (.block 0 (.loop (.seq (.seq (.reg [⟨(some 10), .mv (.tmp 6), none⟩,
  ⟨(some 11), .mv (.tmp 2), none⟩,
  ⟨(some 12), .bin .lss (.tmp 10) (.tmp 11), none⟩])
 (.cond (.tmp 12) (.skip) (.exit 0)))
 (.seq (.block 1 (.seq (.reg [⟨(some 15), .mv (.tmp 6), none⟩,
  ⟨(some 7), .mv (.tmp 15), none⟩])
 (.block 2 (.loop (.seq (.seq (.reg [⟨(some 16), .mv (.tmp 7), none⟩,
  ⟨(some 17), .mv (.tmp 1), none⟩,
  ⟨(some 18), .bin .gtr (.tmp 16) (.tmp 17), none⟩,
  ⟨(some 19), .mv (.tmp 18), none⟩,
  ⟨(some 20), .mv (.tmp 0), (some (19, true))⟩,
  ⟨(some 21), .mv (.tmp 7), (some (19, true))⟩,
  ⟨(some 22), .iad 1 (.tmp 20) (.tmp 21), (some (19, true))⟩,
  ⟨(some 23), .ld none (.tmp 22), (some (19, true))⟩,
  ⟨(some 24), .mv (.tmp 0), (some (19, true))⟩,
  ⟨(some 25), .mv (.tmp 7), (some (19, true))⟩,
  ⟨(some 26), .bin .sub (.tmp 25) (.const (.int .i64 1)), (some (19, true))⟩,
  ⟨(some 27), .iad 1 (.tmp 24) (.tmp 26), (some (19, true))⟩,
  ⟨(some 28), .ld none (.tmp 27), (some (19, true))⟩,
  ⟨(some 29), .rcall (.func 134) [(.tmp 23), (.tmp 28)], (some (19, true))⟩,
  ⟨(some 30), .pick (.tmp 19) (.tmp 29) (.const (.bool false)), none⟩])
 (.cond (.tmp 30) (.skip) (.exit 2)))
 (.seq (.block 3 (.reg [⟨(some 33), .mv (.tmp 0), none⟩,
  ⟨(some 34), .mv (.tmp 7), none⟩,
  ⟨(some 35), .mv (.tmp 0), none⟩,
  ⟨(some 36), .mv (.tmp 7), none⟩,
  ⟨(some 37), .bin .sub (.tmp 36) (.const (.int .i64 1)), none⟩,
  ⟨(some 38), .mv (.tmp 0), none⟩,
  ⟨(some 39), .mv (.tmp 7), none⟩,
  ⟨(some 40), .bin .sub (.tmp 39) (.const (.int .i64 1)), none⟩,
  ⟨(some 41), .iad 1 (.tmp 38) (.tmp 40), none⟩,
  ⟨(some 42), .ld none (.tmp 41), none⟩,
  ⟨(some 43), .mv (.tmp 0), none⟩,
  ⟨(some 44), .mv (.tmp 7), none⟩,
  ⟨(some 45), .iad 1 (.tmp 43) (.tmp 44), none⟩,
  ⟨(some 46), .ld none (.tmp 45), none⟩,
  ⟨(some 47), .iad 1 (.tmp 33) (.tmp 34), none⟩,
  ⟨none, .st 1 (.tmp 47) (.tmp 42), none⟩,
  ⟨(some 48), .iad 1 (.tmp 35) (.tmp 37), none⟩,
  ⟨none, .st 1 (.tmp 48) (.tmp 46), none⟩]))
 (.reg [⟨(some 31), .mv (.tmp 7), none⟩,
  ⟨(some 32), .bin .sub (.tmp 31) (.const (.int .i64 1)), none⟩,
  ⟨(some 7), .mv (.tmp 32), none⟩])))))))
 (.reg [⟨(some 13), .mv (.tmp 6), none⟩,
  ⟨(some 14), .bin .add (.tmp 13) (.const (.int .i64 1)), none⟩,
  ⟨(some 6), .mv (.tmp 14), none⟩])))))
def r_slices_insertionSortOrdered : List ARes := []
theorem ok_slices_insertionSortOrdered : FnOk Try.prog 128 49 c_slices_insertionSortOrdered r_slices_insertionSortOrdered := ⟨⟨Try.f128, _, Try.func128, by kernel_rfl, rfl, rfl, by kernel_rfl, by kernel_rfl⟩⟩
def c_cmp_Less : ACode := .seq (.reg [⟨(some 4), .mv (.const (.bool false)), none⟩])
 (.seq (.reg [⟨(some 5), .mv (.tmp 0), none⟩,
  ⟨(some 6), .call (.func 144) [(.tmp 5)], none⟩,
  ⟨(some 7), .mv (.tmp 6), none⟩,
  ⟨(some 8), .mv (.tmp 1), (some (7, true))⟩,
  ⟨(some 9), .call (.func 144) [(.tmp 8)], (some (7, true))⟩,
  ⟨(some 10), .un .not (.tmp 9), (some (7, true))⟩,
  ⟨(some 11), .pick (.tmp 7) (.tmp 10) (.const (.bool false)), none⟩,
  ⟨(some 12), .mv (.tmp 11), none⟩,
  ⟨(some 13), .mv (.tmp 0), (some (12, false))⟩,
  ⟨(some 14), .mv (.tmp 1), (some (12, false))⟩,
  ⟨(some 15), .bin .lss (.tmp 13) (.tmp 14), (some (12, false))⟩,
  ⟨(some 16), .pick (.tmp 12) (.const (.bool true)) (.tmp 15), none⟩,
  ⟨(some 4), .mv (.tmp 16), none⟩])
 (.ret))
def r_cmp_Less : List ARes := [.tmp 4]
theorem ok_cmp_Less : FnOk Try.prog 134 17 c_cmp_Less r_cmp_Less := ⟨⟨Try.f134, _, Try.func134, by kernel_rfl, rfl, rfl, by kernel_rfl, by kernel_rfl⟩⟩
def c_cmp_isNaN : ACode := .seq (.reg [⟨(some 2), .mv (.const (.bool false)), none⟩])
 (.seq (.reg [⟨(some 3), .mv (.tmp 0), none⟩,
  ⟨(some 4), .mv (.tmp 0), none⟩,
  ⟨(some 5), .bin .neq (.tmp 3) (.tmp 4), none⟩,
  ⟨(some 2), .mv (.tmp 5), none⟩])
 (.ret))
def r_cmp_isNaN : List ARes := [.tmp 2]
theorem ok_cmp_isNaN : FnOk Try.prog 144 6 c_cmp_isNaN r_cmp_isNaN := ⟨⟨Try.f144, _, Try.func144, by kernel_rfl, rfl, rfl, by kernel_rfl, by kernel_rfl⟩⟩
end Go.Proofs.Ytjdallbnbjnghaa.Ab
end
section
namespace Go.Proofs.Ytjdallbnbjnghaa.Ab
open Go Go.RowKit
set_option linter.unusedVariables false
set_option linter.unusedSimpArgs false
def inB (most x : Int) : Bool := decide (0 ≤ x) && decide (x ≤ most)
theorem rowB_all (l : List Int) (n : Nat) (most : Int) : Go.Proofs.Ytjdallbnbjnghaa.rowB l n most = (decide (l.length = n) && l.all (inB most)) := by
  rw [Bool.and_comm]; rfl
def allTo (f : Int → Bool) (l : List Int) (k : Nat) : Prop := ∀ j, j < k → f (l.getD j 0) = true
theorem allTo_all {f : Int → Bool} {l : List Int} (h : allTo f l l.length) : l.all f = true := by
  rw [List.all_eq_true]
  intro x hx
  obtain ⟨k, hk, rfl⟩ := List.getElem_of_mem hx
  have := h k hk
  rwa [List.getD_eq_getElem?_getD, List.getElem?_eq_getElem hk] at this
theorem allTo_no {f : Int → Bool} {l : List Int} {k : Nat} (hk : k < l.length) (h : f (l.getD k 0) = false) : l.all f = false := by
  rw [List.getD_eq_getElem?_getD, List.getElem?_eq_getElem hk] at h
  cases hr : l.all f with
  | false => rfl
  | true => rw [Option.getD_some, List.all_eq_true.1 hr _ (List.getElem_mem hk)] at h; cases h
theorem allTo_s {f : Int → Bool} {l : List Int} {k : Nat} (h : allTo f l k) (h2 : f (l.getD k 0) = true) : allTo f l (k + 1) := fun j hj => by
  by_cases e : j = k
  · rw [e]; exact h2
  · exact h j (by omega)

theorem l1In_rc (m : Mem) (x lo hi : Int) : RC Try.prog 73 [.int .i64 x, .int .i64 lo, .int .i64 hi] m fun r new => r = .bool (decide (lo ≤ x) && decide (x ≤ hi)) ∧ new = [] := by
  refine rc_of_run mixed ok_spec_l1In (by simp) (go_start _ _ _ ?_)
  by_cases h1 : lo ≤ x <;> by_cases h2 : x ≤ hi
  all_goals
    simp (config := {implicitDefEqProofs := false, maxDischargeDepth := 20}) (disch := first | omega | (simp only [lenE]; done) | (simp only [lenE]; omega) | rfl | (simp only [lenE, markR_len]; done) | (simp only [lenE, markR_len]; omega)) only [runE, mapE, listE, initT_5, initT_6, initT_7, initT_8, resV, oneV, binA, unA, reduceCtorEq, Nat.reduceEqDiff, Nat.reduceAdd, Nat.reduceLT, Nat.reduceLeDiff, Nat.reduceMul, Nat.reduceSub, ↓reduceIte, decide_true, decide_false, Bool.true_eq_false, Bool.false_eq_true, Bool.not_true, Bool.not_false, if_true, if_false, and_true, true_and, memE, celE, w64, Nat.zero_add, Nat.add_zero, Nat.mul_one, putL, and_self, ldn, c_spec_l1In, r_spec_l1In, h1, h2, ge_iff_le]
    exact newQ_nil ⟨by simp, rfl⟩

theorem l2Row_rc (m : Mem) (v : Value) (l : List Int) (n : Nat) (most : Int) (h : IntsA m v l) :
    RC Try.prog 120 [v, .int .i64 n, .int .i64 most] m fun r new => r = .bool (Go.Proofs.Ytjdallbnbjnghaa.rowB l n most) ∧ new = [] := by
  refine rc_of_run mixed ok_spec_l2Row (by simp) (go_start _ _ _ ?_)
  obtain ⟨e1, e2, e3, e4, -⟩ := h.ro
  rw [rowB_all]
  simp (config := {implicitDefEqProofs := false, maxDischargeDepth := 20}) (disch := first | omega | (simp only [lenE]; done) | (simp only [lenE]; omega) | rfl | (simp only [lenE, markR_len]; done) | (simp only [lenE, markR_len]; omega)) only [runE, mapE, listE, initT_5, initT_6, initT_7, initT_8, resV, oneV, binA, unA, reduceCtorEq, Nat.reduceEqDiff, Nat.reduceAdd, Nat.reduceLT, Nat.reduceLeDiff, Nat.reduceMul, Nat.reduceSub, ↓reduceIte, decide_true, decide_false, Bool.true_eq_false, Bool.false_eq_true, Bool.not_true, Bool.not_false, if_true, if_false, and_true, true_and, memE, celE, w64, Nat.zero_add, Nat.add_zero, Nat.mul_one, putL, and_self, ldn, c_spec_l2Row, r_spec_l2Row]
  refine loop_inv mixed (fun s => ∃ k : Nat, k ≤ l.length ∧ s.t 0 = v ∧ s.t 1 = .int .i64 n ∧ s.t 2 = .int .i64 most ∧ s.t 7 = .int .i64 k ∧ s.m = roM m ∧ allTo (inB most) l k) (fun s => l.length - (intOf (s.t 7)).toNat) ⟨0, by omega, rfl, rfl, rfl, rfl, rfl, fun j hj => absurd hj (by omega)⟩ ?_
  rintro s ⟨k, hk, t0, t1, t2, t7, tm, hall⟩
  by_cases hlt : k < l.length
  · have hlt' : (k : Int) < l.length := by omega
    simp (config := {implicitDefEqProofs := false, maxDischargeDepth := 20}) (disch := first | omega | (simp only [lenE]; done) | (simp only [lenE]; omega) | rfl | (simp only [lenE, markR_len]; done) | (simp only [lenE, markR_len]; omega)) only [runE, mapE, listE, initT_5, initT_6, initT_7, initT_8, resV, oneV, binA, unA, reduceCtorEq, Nat.reduceEqDiff, Nat.reduceAdd, Nat.reduceLT, Nat.reduceLeDiff, Nat.reduceMul, Nat.reduceSub, ↓reduceIte, decide_true, decide_false, Bool.true_eq_false, Bool.false_eq_true, Bool.not_true, Bool.not_false, if_true, if_false, and_true, true_and, memE, celE, w64, Nat.zero_add, Nat.add_zero, Nat.mul_one, putL, and_self, ldn, t0, t1, t2, t7, tm, e1, e3 k hlt, e4 k hlt, hlt']
    refine callH_rc (l1In_rc _ _ _ _) ?_
    rintro r new ⟨rfl, rfl⟩
    have hin : (decide (0 ≤ l.getD k 0) && decide (l.getD k 0 ≤ most)) = inB most (l.getD k 0) := rfl
    rw [hin]
    cases hb : inB most (l.getD k 0) with
    | true =>
      simp (config := {implicitDefEqProofs := false, maxDischargeDepth := 20}) (disch := first | omega | (simp only [lenE]; done) | (simp only [lenE]; omega) | rfl | (simp only [lenE, markR_len]; done) | (simp only [lenE, markR_len]; omega)) only [runE, mapE, listE, initT_5, initT_6, initT_7, initT_8, resV, oneV, binA, unA, reduceCtorEq, Nat.reduceEqDiff, Nat.reduceAdd, Nat.reduceLT, Nat.reduceLeDiff, Nat.reduceMul, Nat.reduceSub, ↓reduceIte, decide_true, decide_false, Bool.true_eq_false, Bool.false_eq_true, Bool.not_true, Bool.not_false, if_true, if_false, and_true, true_and, memE, celE, w64, Nat.zero_add, Nat.add_zero, Nat.mul_one, putL, and_self, ldn, t0, t1, t2, t7, tm]
      refine ⟨⟨k + 1, by omega, by simp, allTo_s hall hb⟩, ?_⟩
      simp [intOf]; omega
    | false =>
      simp (config := {implicitDefEqProofs := false, maxDischargeDepth := 20}) (disch := first | omega | (simp only [lenE]; done) | (simp only [lenE]; omega) | rfl | (simp only [lenE, markR_len]; done) | (simp only [lenE, markR_len]; omega)) only [runE, mapE, listE, initT_5, initT_6, initT_7, initT_8, resV, oneV, binA, unA, reduceCtorEq, Nat.reduceEqDiff, Nat.reduceAdd, Nat.reduceLT, Nat.reduceLeDiff, Nat.reduceMul, Nat.reduceSub, ↓reduceIte, decide_true, decide_false, Bool.true_eq_false, Bool.false_eq_true, Bool.not_true, Bool.not_false, if_true, if_false, and_true, true_and, memE, celE, w64, Nat.zero_add, Nat.add_zero, Nat.mul_one, putL, and_self, ldn, t0, t1, t2, t7, tm]
      exact newQ_nil ⟨by rw [allTo_no hlt hb]; simp, rfl⟩
  · have hlt' : ¬ ((k : Int) < l.length) := by omega
    have e : k = l.length := by omega
    simp (config := {implicitDefEqProofs := false, maxDischargeDepth := 20}) (disch := first | omega | (simp only [lenE]; done) | (simp only [lenE]; omega) | rfl | (simp only [lenE, markR_len]; done) | (simp only [lenE, markR_len]; omega)) only [runE, mapE, listE, initT_5, initT_6, initT_7, initT_8, resV, oneV, binA, unA, reduceCtorEq, Nat.reduceEqDiff, Nat.reduceAdd, Nat.reduceLT, Nat.reduceLeDiff, Nat.reduceMul, Nat.reduceSub, ↓reduceIte, decide_true, decide_false, Bool.true_eq_false, Bool.false_eq_true, Bool.not_true, Bool.not_false, if_true, if_false, and_true, true_and, memE, celE, w64, Nat.zero_add, Nat.add_zero, Nat.mul_one, putL, and_self, ldn, t0, t1, t2, t7, tm, e1, hlt']
    rw [e] at hall
    refine newQ_nil ⟨?_, rfl⟩
    rw [allTo_all hall]
    by_cases hq : l.length = n <;> simp [hq] <;> omega

theorem isWithin_rc (m : Mem) (x most : Int) : RC Try.prog 68 [.int .i64 x, .int .i64 most] m fun r new => r = .bool (inB most x) ∧ new = [] := by
  refine rc_of_run mixed ok_impl_isWithin (by simp) (go_start _ _ _ ?_)
  by_cases h1 : 0 ≤ x <;> by_cases h2 : x ≤ most
  all_goals
    simp (config := {implicitDefEqProofs := false, maxDischargeDepth := 20}) (disch := first | omega | (simp only [lenE]; done) | (simp only [lenE]; omega) | rfl | (simp only [lenE, markR_len]; done) | (simp only [lenE, markR_len]; omega)) only [runE, mapE, listE, initT_5, initT_6, initT_7, initT_8, resV, oneV, binA, unA, reduceCtorEq, Nat.reduceEqDiff, Nat.reduceAdd, Nat.reduceLT, Nat.reduceLeDiff, Nat.reduceMul, Nat.reduceSub, ↓reduceIte, decide_true, decide_false, Bool.true_eq_false, Bool.false_eq_true, Bool.not_true, Bool.not_false, if_true, if_false, and_true, true_and, memE, celE, w64, Nat.zero_add, Nat.add_zero, Nat.mul_one, putL, and_self, ldn, c_impl_isWithin, r_impl_isWithin, h1, h2, ge_iff_le]
    exact newQ_nil ⟨by simp [inB, h1, h2], rfl⟩

end Go.Proofs.Ytjdallbnbjnghaa.Ab
end
section
namespace Go.Proofs.Ytjdallbnbjnghaa.Ab
open Go Go.RowKit
set_option linter.unusedVariables false
set_option linter.unusedSimpArgs false
theorem bsl_none {m : Mem} : bslA m 3 1 0 [] [] = some (.slice (some ⟨m.length, 0, none⟩) 0 1, m ++ [⟨.own, 3, ([] : List Int).map (Value.int .i64)⟩]) := rfl
theorem bsl_one {m : Mem} {y : Int} : bslA m 3 1 1 [.int .i64 0] [(0, 1, .int .i64 y)] = some (.slice (some ⟨m.length, 0, none⟩) 1 1, m ++ [⟨.own, 3, [.int .i64 y]⟩]) := rfl

def AnsR (m : Mem) (l : List Int) (r : Value) (new : Mem) : Prop :=
  NoRo new ∧ l.length ≤ 1048576 ∧ ∃ i fl, r = .slice (some ⟨m.length + i, 0, none⟩) l.length fl ∧ new[i]? = some (rowB l)
theorem AnsR.row {m new : Mem} {l : List Int} {r : Value} (h : AnsR m l r new) : ∃ id fl, r = .slice (some ⟨id, 0, none⟩) l.length fl ∧ m.length ≤ id ∧ OwnR (m ++ new) id l ∧ l.length ≤ 1048576 ∧ NoRo new := by
  obtain ⟨h1, h2, i, fl, rfl, h3⟩ := h
  exact ⟨_, fl, rfl, by omega, OwnR.new h3 rfl, h2, h1⟩
end Go.Proofs.Ytjdallbnbjnghaa.Ab
end
section
namespace Go.Proofs.Ytjdallbnbjnghaa.Ab
open Go Go.RowKit
set_option linter.unusedVariables false
set_option linter.unusedSimpArgs false
def BoxA (m : Mem) (id : Nat) (vs : List Value) : Prop := ∃ e, m[id]? = some ⟨.own, e, vs⟩
theorem BoxA.lt {m : Mem} {id : Nat} {vs : List Value} (h : BoxA m id vs) : id < m.length := by
  obtain ⟨_, h⟩ := h
  exact (List.getElem?_eq_some_iff.1 h).1
theorem BoxA.ext {m : Mem} {id : Nat} {vs : List Value} (h : BoxA m id vs) (new : Mem) : BoxA (m ++ new) id vs := by
  have hl := h.lt
  obtain ⟨e, h⟩ := h
  exact ⟨e, by rw [List.getElem?_append_left hl]; exact h⟩
theorem BoxA.other {m : Mem} {id id' : Nat} {vs : List Value} {k0 : Int} {n : Nat} (h : BoxA m id' vs) (hne : id ≠ id') : BoxA (markR m id k0 n) id' vs := by
  obtain ⟨e, h⟩ := h
  exact ⟨e, by unfold markR; rw [List.getElem?_set_ne hne]; exact h⟩
theorem ext_2_0 (a b : Value) : extA 0 (.tuple #[a, b]) = some a := rfl
theorem ext_2_1 (a b : Value) : extA 1 (.tuple #[a, b]) = some b := rfl
theorem ext_3_0 (a b c : Value) : extA 0 (.tuple #[a, b, c]) = some a := rfl
theorem ext_3_1 (a b c : Value) : extA 1 (.tuple #[a, b, c]) = some b := rfl
theorem ext_3_2 (a b c : Value) : extA 2 (.tuple #[a, b, c]) = some c := rfl
end Go.Proofs.Ytjdallbnbjnghaa.Ab
end
section
namespace Go.Proofs.Ytjdallbnbjnghaa.Ab
open Go Go.RowKit
set_option linter.unusedVariables false
set_option linter.unusedSimpArgs false
def Ext (m M : Mem) : Prop := ∃ new, M = roM m ++ new ∧ NoRo new
theorem Ext.refl (m : Mem) : Ext m (roM m) := ⟨[], by simp, noRo_nil⟩
theorem Ext.app {m M new : Mem} (h : Ext m M) (hn : NoRo new) : Ext m (M ++ new) := by
  obtain ⟨n0, rfl, h0⟩ := h
  exact ⟨n0 ++ new, by rw [List.append_assoc], noRo_app h0 hn⟩
theorem Ext.one {m M : Mem} (h : Ext m M) (e : TypeId) (cs : List Value) : Ext m (M ++ [⟨.own, e, cs⟩]) := h.app (noRo_own noRo_nil)
theorem Ext.len {m M : Mem} (h : Ext m M) : m.length ≤ M.length := by
  obtain ⟨n0, rfl, h0⟩ := h
  simp [roM_len]
theorem Ext.ints {m M : Mem} (h : Ext m M) {v : Value} {l : List Int} (hi : IntsA (roM m) v l) : IntsA M v l := by
  obtain ⟨n0, rfl, h0⟩ := h
  exact hi.ext _
theorem noRo_set {l : Mem} {i : Nat} (h : NoRo l) : NoRo (l.set i deadB) := fun b hb => by
  rcases List.mem_or_eq_of_mem_set hb with h1 | h1
  · exact h b h1
  · rw [h1]; simp [deadB]
theorem Ext.dead {m M : Mem} (h : Ext m M) {id : Nat} (hid : m.length ≤ id) : Ext m (M.set id deadB) := by
  obtain ⟨n0, rfl, h0⟩ := h
  exact ⟨n0.set (id - m.length) deadB, by rw [List.set_append_right _ _ (by rw [roM_len]; exact hid), roM_len], noRo_set h0⟩
theorem OwnR.dead {m : Mem} {id id' : Nat} {l : List Int} (h : OwnR m id' l) (hne : id ≠ id') : OwnR (m.set id deadB) id' l := by
  unfold OwnR; rw [List.getElem?_set_ne hne]; exact h
theorem OwnR.at_end (m : Mem) (l : List Int) : OwnR (m ++ [⟨.own, 3, l.map (Value.int .i64)⟩]) m.length l := by unfold OwnR; simp
theorem app_gen {M : Mem} {l : List Int} {x : Int} {id : Nat} (h : OwnR M id l) (hb : l.length ≤ 1048576) :
    appP (M ++ [⟨.own, 3, [.int .i64 x]⟩]) 3 1 8 (.slice (some ⟨id, 0, none⟩) l.length 1) (.slice (some ⟨M.length, 0, none⟩) 1 1) =
      some (.slice (some ⟨M.length + 1, 0, none⟩) (l.length + 1) 1, M.set id deadB ++ [⟨.own, 3, [.int .i64 x]⟩] ++ [⟨.own, 3, (l ++ [x]).map (Value.int .i64)⟩]) := by
  have hl := h.lt
  have e1 : slR (M ++ [⟨.own, 3, [.int .i64 x]⟩]) 1 (.slice (some ⟨M.length, 0, none⟩) 1 1) = some [.int .i64 x] := by
    simp only [slR, rdl, Nat.mul_one]
    simp
  unfold appP
  rw [e1]
  simp only [onesB_int, onesB_nil, if_true, appA, lenOfA]
  rw [List.getElem?_append_left hl, show M[id]? = some (rowB l) from h]
  simp only [List.length_map, Nat.mul_one, true_and]
  rw [if_pos (by omega), List.set_append_left _ _ hl]
  simp
theorem ext_ansL {m M : Mem} {l : List Int} {id n fl : Nat} {ok : Bool} (h : Ext m M) (ho : OwnR M id l) (hid : m.length ≤ id) (hn : n = l.length) (hl : l.length ≤ 1048576) :
    newQ m (AnsL m l ok) (.tuple #[.slice (some ⟨id, 0, none⟩) n fl, .bool ok]) M := by
  subst hn
  obtain ⟨n0, rfl, h0⟩ := h
  unfold OwnR at ho
  rw [List.getElem?_append_right (by rw [roM_len]; exact hid), roM_len] at ho
  exact ⟨n0, rfl, h0, h0, hl, id - m.length, fl, by rw [Nat.add_sub_cancel' hid], ho⟩
theorem ext_ansR {m M : Mem} {l : List Int} {id n fl : Nat} (h : Ext m M) (ho : OwnR M id l) (hid : m.length ≤ id) (hn : n = l.length) (hl : l.length ≤ 1048576) :
    newQ m (AnsR m l) (.slice (some ⟨id, 0, none⟩) n fl) M := by
  subst hn
  obtain ⟨n0, rfl, h0⟩ := h
  unfold OwnR at ho
  rw [List.getElem?_append_right (by rw [roM_len]; exact hid), roM_len] at ho
  exact ⟨n0, rfl, h0, h0, hl, id - m.length, fl, by rw [Nat.add_sub_cancel' hid], ho⟩
theorem ext_ansV {m M : Mem} {x v : Value} (h : Ext m M) (hv : v = x) : newQ m (AnsV x) v M := by
  obtain ⟨n0, rfl, h0⟩ := h
  exact ⟨n0, rfl, h0, hv, h0⟩
theorem AnsL.row {m new : Mem} {l : List Int} {ok : Bool} {r : Value} (h : AnsL m l ok r new) : ∃ id fl, r = .tuple #[.slice (some ⟨id, 0, none⟩) l.length fl, .bool ok] ∧ m.length ≤ id ∧ OwnR (m ++ new) id l ∧ l.length ≤ 1048576 ∧ NoRo new := by
  obtain ⟨h1, h2, i, fl, rfl, h3⟩ := h
  exact ⟨_, fl, rfl, by omega, OwnR.new h3 rfl, h2, h1⟩

end Go.Proofs.Ytjdallbnbjnghaa.Ab
end
section
namespace Go.Proofs.Ytjdallbnbjnghaa.Ab
open Go Go.RowKit
set_option linter.unusedVariables false
set_option linter.unusedSimpArgs false
theorem goG_undef {P : Program} {n : Nat} (s : St) (k : Kont) (d : Option Nat) (rs : List ARow) (w : Bool) (x : AOp) : goG P n undef w d x rs k s = goR P n rs k (s.putT d undef) := rfl
def Grow (M0 M : Mem) : Prop := ∃ R, M = M0 ++ R ∧ NoRo R
theorem Grow.refl (M : Mem) : Grow M M := ⟨[], by simp, noRo_nil⟩
theorem Grow.app {M0 M new : Mem} (h : Grow M0 M) (hn : NoRo new) : Grow M0 (M ++ new) := by
  obtain ⟨R, rfl, h0⟩ := h
  exact ⟨R ++ new, by rw [List.append_assoc], noRo_app h0 hn⟩
theorem Grow.one {M0 M : Mem} (h : Grow M0 M) (e : TypeId) (cs : List Value) : Grow M0 (M ++ [⟨.own, e, cs⟩]) := h.app (noRo_own noRo_nil)
theorem Grow.len {M0 M : Mem} (h : Grow M0 M) : M0.length ≤ M.length := by
  obtain ⟨R, rfl, h0⟩ := h
  simp
theorem Grow.trans {A B C : Mem} (h : Grow A B) (h' : Grow B C) : Grow A C := by
  obtain ⟨R, rfl, h0⟩ := h
  obtain ⟨S, rfl, h1⟩ := h'
  exact ⟨R ++ S, by rw [List.append_assoc], noRo_app h0 h1⟩
theorem noRo_setO {l : Mem} {i : Nat} {e : TypeId} {cs : List Value} (h : NoRo l) : NoRo (l.set i ⟨.own, e, cs⟩) := fun b hb => by
  rcases List.mem_or_eq_of_mem_set hb with h1 | h1
  · exact h b h1
  · rw [h1]; simp
theorem Grow.dead {M0 M : Mem} (h : Grow M0 M) {id : Nat} (hid : M0.length ≤ id) : Grow M0 (M.set id deadB) := by
  obtain ⟨R, rfl, h0⟩ := h
  exact ⟨R.set (id - M0.length) deadB, by rw [List.set_append_right _ _ hid], noRo_set h0⟩
theorem Grow.put {M0 M : Mem} (h : Grow M0 M) {id : Nat} (hid : M0.length ≤ id) (e : TypeId) (cs : List Value) : Grow M0 (M.set id ⟨.own, e, cs⟩) := by
  obtain ⟨R, rfl, h0⟩ := h
  exact ⟨R.set (id - M0.length) ⟨.own, e, cs⟩, by rw [List.set_append_right _ _ hid], noRo_setO h0⟩
theorem Grow.rd {M0 M : Mem} (h : Grow M0 M) {id k : Nat} {v : Value} (hv : rdc M0 id k = some v) : rdc M id k = some v := by
  obtain ⟨R, rfl, h0⟩ := h
  exact rdc_ext hv
theorem Grow.ints {M0 M : Mem} (h : Grow M0 M) {v : Value} {l : List Int} (hi : IntsA M0 v l) : IntsA M v l := by
  obtain ⟨R, rfl, h0⟩ := h
  exact hi.ext R
theorem Grow.own {M0 M : Mem} (h : Grow M0 M) {id : Nat} {l : List Int} (hi : OwnR M0 id l) : OwnR M id l := by
  obtain ⟨R, rfl, h0⟩ := h
  exact hi.ext R
theorem iadA_at {id off n fl sz : Nat} {k : IntKind} {z : Int} {j : Nat} (h : z = j) (hj : j < n) : iadA sz (.slice (some ⟨id, off, none⟩) n fl) (.int k z) = some (.pointer (some ⟨id, off + j * sz, none⟩)) := by
  subst h; exact iadA_in hj
theorem iad0 {id n fl : Nat} {z : Int} {j : Nat} (h : z = j) (hj : j < n) : iadA 1 (.slice (some ⟨id, 0, none⟩) n fl) (.int .i64 z) = some (.pointer (some ⟨id, j, none⟩)) := by
  have := iadA_at (id := id) (off := 0) (fl := fl) (sz := 1) (k := .i64) h hj
  simpa using this
theorem OwnR.rd' {M : Mem} {id : Nat} {L : List Int} (h : OwnR M id L) {i : Nat} (hi : i < L.length) : rdc M id i = some (.int .i64 (L.getD i 0)) := by
  unfold rdc
  rw [show M[id]? = some (rowB L) from h]
  simp [List.getElem?_map, List.getElem?_eq_getElem hi, List.getD_eq_getElem?_getD]
theorem Ext.put {m M : Mem} (h : Ext m M) {id : Nat} (hid : m.length ≤ id) (e : TypeId) (cs : List Value) : Ext m (M.set id ⟨.own, e, cs⟩) := by
  obtain ⟨new, rfl, hn⟩ := h
  exact ⟨new.set (id - m.length) ⟨.own, e, cs⟩, by rw [List.set_append_right _ _ (by rw [roM_len]; exact hid), roM_len], noRo_setO hn⟩
theorem OwnR.st {M : Mem} {id off : Nat} {L : List Int} {x : Int} (h : OwnR M id L) (ho : off < L.length) : stA M id off [.int .i64 x] = some (M.set id (rowB (L.set off x))) := by
  rw [stA_at (show M[id]? = some ⟨.own, 3, L.map (Value.int .i64)⟩ from h) (by simpa using ho) rfl]
  unfold rowB
  rw [List.map_set]
theorem OwnR.set_self {M : Mem} {id : Nat} {L L' : List Int} (h : OwnR M id L) : OwnR (M.set id (rowB L')) id L' := by
  unfold OwnR; rw [List.getElem?_set_self h.lt]
theorem OwnR.set_ne {M : Mem} {id id' : Nat} {L : List Int} {b : Blk} (h : OwnR M id' L) (hne : id ≠ id') : OwnR (M.set id b) id' L := by
  unfold OwnR; rw [List.getElem?_set_ne hne]; exact h
theorem rdc_box {m : Mem} {e : TypeId} {cs : List Value} {id : Nat} (h : id = m.length) (k : Nat) : rdc (m ++ [⟨.own, e, cs⟩]) id k = cs[k]? := by
  rw [h]; exact rdc_new m e cs k
theorem mksA_eq {m : Mem} {e byt n : Nat} {z : Value} {a : Int} (ha : a = n) (h : n * byt ≤ 140737488355328 ∧ n ≤ 140737488355328) :
    mksA m e byt [z] (.int .i64 a) (.int .i64 a) = some (.slice (some ⟨m.length, 0, none⟩) n 1, m ++ [⟨.own, e, List.replicate n z⟩]) := by
  subst ha
  exact mksA_nat m e byt n z (by omega)
theorem OwnR.zeros {m : Mem} {n id : Nat} (h : id = m.length) : OwnR (m ++ [⟨.own, 3, List.replicate n (.int .i64 0)⟩]) id (List.replicate n 0) := by
  unfold OwnR rowB; rw [h]; simp
def cutL (l : List Int) (lo hi : Nat) : List Int := (l.take hi).drop lo
theorem cutL_len {l : List Int} {lo hi : Nat} (h : hi ≤ l.length) : (cutL l lo hi).length = hi - lo := by
  unfold cutL; rw [List.length_drop, List.length_take, Nat.min_eq_left h]
theorem cutL_at {l : List Int} {lo hi k : Nat} (hk : lo + k < hi) : (cutL l lo hi).getD k 0 = l.getD (lo + k) 0 := by
  unfold cutL
  rw [List.getD_eq_getElem?_getD, List.getD_eq_getElem?_getD, List.getElem?_drop, List.getElem?_take, if_pos hk]
theorem IntsA.lenOf {m : Mem} {v : Value} {l : List Int} (h : IntsA m v l) : lenOfA v = l.length := by
  have := h.len
  unfold lenA at this
  split at this
  · simp only [Option.some.injEq, Value.int.injEq, true_and] at this
    simp only [lenOfA]; omega
  · cases this
theorem IntsA.form {m : Mem} {v : Value} {l : List Int} (h : IntsA m v l) : (v = .slice none 0 0 ∧ l = []) ∨ ∃ id off fl, v = .slice (some ⟨id, off, none⟩) l.length fl := by
  have h1 := h.src
  have h2 := h.lenOf
  unfold slR at h1
  split at h1
  · exact .inl ⟨rfl, by simpa [lenOfA] using h2.symm⟩
  · simp only [lenOfA] at h2
    subst h2
    exact .inr ⟨_, _, _, rfl⟩
  · cases h1
theorem IntsA.cut {m : Mem} {v : Value} {l : List Int} (h : IntsA m v l) {lo hi : Nat} (h1 : lo ≤ hi) (h2 : hi ≤ l.length) :
    ∃ v', slcA 1 v (some (.int .i64 lo)) (some (.int .i64 hi)) = some v' ∧ IntsA m v' (cutL l lo hi) := by
  rcases h.form with ⟨rfl, rfl⟩ | ⟨id, off, fl, rfl⟩
  · have e1 : hi = 0 := by simpa using h2
    have e2 : lo = 0 := by omega
    subst e1 e2
    exact ⟨.slice none 0 0, rfl, IntsA.nil m⟩
  · refine ⟨.slice (some ⟨id, off + lo, none⟩) (hi - lo) 0, ?_, ?_⟩
    · simp [slcA, boundA, h1, h2]
    · have hb := h.bd
      rw [← cutL_len h2]
      refine IntsA.of_block (by rw [cutL_len h2]; omega) (fun k hk => ?_) ?_
      · rw [cutL_len h2] at hk
        rw [cutL_at (by omega)]
        have := h.ld (lo + k) (by omega)
        simp only [pAt, ldA] at this
        rw [Nat.add_assoc]; exact this
      · have hs := h.src
        simp only [slR, Nat.mul_one, rdl] at hs ⊢
        split at hs
        · rename_i b hb
          rw [cutL_len h2]
          split at hs
          · cases hs
          · split at hs
            · rename_i hd hle
              rw [if_neg hd, if_pos (by omega)]
              have hs' := Option.some.inj hs
              unfold cutL
              rw [List.map_drop, List.map_take, ← hs', List.take_take, List.drop_take, List.drop_drop, Nat.min_eq_left h2]
            · cases hs
        · cases hs

theorem IntsA.pre {m : Mem} {v : Value} {l : List Int} (h : IntsA m v l) {hi : Nat} (h2 : hi ≤ l.length) :
    ∃ v', slcA 1 v none (some (.int .i64 hi)) = some v' ∧ IntsA m v' (cutL l 0 hi) := by
  obtain ⟨x, e, hx⟩ := h.cut (lo := 0) (Nat.zero_le hi) h2
  rcases h.form with ⟨rfl, rfl⟩ | ⟨id, off, fl, rfl⟩
  · have e1 : hi = 0 := by simpa using h2
    subst e1
    exact ⟨.slice none 0 0, rfl, IntsA.nil m⟩
  · have hs : slcA 1 (.slice (some ⟨id, off, none⟩) l.length fl) none (some (.int .i64 hi)) = some (.slice (some ⟨id, off, none⟩) hi fl) := by
      simp [slcA, boundA, h2]
    have hs2 : slcA 1 (.slice (some ⟨id, off, none⟩) l.length fl) (some (.int .i64 0)) (some (.int .i64 hi)) = some (.slice (some ⟨id, off, none⟩) hi 0) := by
      simp [slcA, boundA, h2]
    have e0 : (((0 : Nat) : Int)) = 0 := rfl
    rw [e0, hs2] at e
    cases e
    have hc : (cutL l 0 hi).length = hi := by rw [cutL_len h2, Nat.sub_zero]
    refine ⟨_, hs, ?_⟩
    have a := hx
    refine ⟨a.len, a.bd, fun k hk => ?_, fun k hk => ?_, ?_⟩
    · have := a.at_ k hk
      simp only [iadA, pAt] at this ⊢
      exact this
    · exact a.ld k hk
    · exact a.src
theorem Ext.rd {m M : Mem} (h : Ext m M) {id k : Nat} {v : Value} (hv : rdc m id k = some v) : rdc M id k = some v := by
  obtain ⟨n0, rfl, h0⟩ := h
  exact rdc_ext (by rw [rdc_roM]; exact hv)
end Go.Proofs.Ytjdallbnbjnghaa.Ab
end
section
namespace Go.Proofs.Ytjdallbnbjnghaa.Ab
open Go Go.RowKit
set_option linter.unusedVariables false
set_option linter.unusedSimpArgs false
theorem CurA.cw {M M' : Mem} {cb id a : Nat} {l : List Int} (h : CurA M cb l id a) (hlen : M.length ≤ M'.length) (hl : ∀ i, i < M.length → M'[i]? = M[i]?) : CurA M' cb l id a := by
  obtain ⟨seed, hb⟩ := h.box
  have h1 := (List.getElem?_eq_some_iff.1 h.code).1
  exact ⟨(hl cb h1).trans h.code, h.byte, h.few, seed, (hl id h.lt).trans hb⟩
theorem CurA.ext {M : Mem} {cb id a : Nat} {l : List Int} (h : CurA M cb l id a) (new : Mem) : CurA (M ++ new) cb l id a :=
  h.cw (by simp) fun i hi => List.getElem?_append_left hi
theorem Cw.ext {id : Nat} {M M' : Mem} (h : Cw id M M') {new : Mem} (hn : NoRo new) : Cw id M (M' ++ new) :=
  ⟨by have := h.len; simp; omega, fun i h1 h2 => by rw [List.getElem?_append_left (by have := h.len; omega)]; exact h.old i h1 h2, fun i b h1 h2 => by
    by_cases hi : i < M'.length
    · rw [List.getElem?_append_left hi] at h2; exact h.new i b h1 h2
    · rw [List.getElem?_append_right (by omega)] at h2; exact hn b (List.mem_of_getElem? h2)⟩
theorem Cw.pre {id : Nat} {M new M' : Mem} (h : Cw id (M ++ new) M') (hn : NoRo new) (hid : id < M.length) : Cw id M M' :=
  ⟨by have := h.len; simp at this; omega, fun i h1 h2 => (h.old i h1 (by simp; omega)).trans (List.getElem?_append_left h2), fun i b h1 h2 => by
    by_cases hi : (M ++ new).length ≤ i
    · exact h.new i b hi h2
    · rw [h.old i (by omega) (by omega), List.getElem?_append_right h1] at h2
      exact hn b (List.mem_of_getElem? h2)⟩
theorem among_new (M : Mem) (cb id a : Nat) (l : List Int) (xs : List Int) {i n : Nat} (h : CurA M cb l id a) (ha : a ≤ 999999998) (hi : i = M.length) (hn : n = xs.length) (h1 : 1 ≤ xs.length) (h2 : xs.length ≤ 1000) :
    AC Try.prog 63 [.pointer (some ⟨id, 0, none⟩), .slice (some ⟨i, 0, none⟩) n 1] (M ++ [rowB xs]) fun r M' => ∃ x ∈ xs, r = .int .i64 x ∧ Cw id M M' ∧ ∃ a', a' ≤ a + 2 ∧ CurA M' cb l id a' := by
  subst hi hn
  have hid := h.lt
  have ho : OwnR (M ++ [rowB xs]) M.length xs := by unfold OwnR; simp
  refine (among_ac (M ++ [rowB xs]) cb id a l _ xs (h.ext _) ha (ho.ints (by omega) 1) (fun M' w => (w.own ho (by omega)).ints (by omega) 1) h1 h2).mono ?_
  rintro r M' ⟨x, hx, hr, w, k⟩
  exact ⟨x, hx, hr, w.pre (noRo_own noRo_nil) hid, k⟩

theorem CurA.put {M : Mem} {cb id a r : Nat} {l : List Int} (h : CurA M cb l id a) (hr : r ≠ cb) (hi : r ≠ id) (b : Blk) : CurA (M.set r b) cb l id a := by
  obtain ⟨s, hb⟩ := h.box
  exact ⟨by rw [List.getElem?_set_ne hr]; exact h.code, h.byte, h.few, s, by rw [List.getElem?_set_ne hi]; exact hb⟩
theorem Cw.put {id r : Nat} {M M' : Mem} (h : Cw id M M') (hr : M.length ≤ r) {b : Blk} (hb : b.kd ≠ .ro) : Cw id M (M'.set r b) := by
  refine ⟨by simpa using h.len, fun i h1 h2 => by rw [List.getElem?_set_ne (by omega)]; exact h.old i h1 h2, fun i c h1 h2 => ?_⟩
  by_cases e : r = i
  · subst e
    rcases at_set h2 with ⟨hne, _⟩ | ⟨_, hc, _⟩
    · exact absurd rfl hne
    · rw [← hc]; exact hb
  · rw [List.getElem?_set_ne e] at h2; exact h.new i c h1 h2
theorem CurA.cblt {M : Mem} {cb id a : Nat} {l : List Int} (h : CurA M cb l id a) : cb < M.length := (List.getElem?_eq_some_iff.1 h.code).1
structure Dr (M M' : Mem) (cb id a r : Nat) (l L : List Int) : Prop where
  hid : id < M.length
  hcb : cb < M.length
  cw : Cw id M M'
  cur : CurA M' cb l id a
  own : OwnR M' r L
  ge : M.length ≤ r
section
variable {M M' M2 : Mem} {cb id a a2 r : Nat} {l L : List Int}
theorem Dr.draw (h : Dr M M' cb id a r l L) (w : Cw id M' M2) (k : CurA M2 cb l id a2) : Dr M M2 cb id a2 r l L :=
  ⟨h.hid, h.hcb, Cw.trans h.hid h.cw w, k, w.own h.own (by have := h.hid; have := h.ge; omega), h.ge⟩
theorem Dr.ext (h : Dr M M' cb id a r l L) {new : Mem} (hn : NoRo new) : Dr M (M' ++ new) cb id a r l L :=
  ⟨h.hid, h.hcb, h.cw.ext hn, h.cur.ext new, h.own.ext new, h.ge⟩
theorem Dr.new (hid : id < M.length) (hcb : cb < M.length) (w : Cw id M M') (k : CurA M' cb l id a) {r : Nat} (hr : r = M'.length) (L : List Int) : Dr M (M' ++ [rowB L]) cb id a r l L := by
  subst hr
  exact ⟨hid, hcb, w.ext (noRo_own noRo_nil), k.ext _, by unfold OwnR; simp, w.len⟩
theorem Dr.app (h : Dr M M' cb id a r l L) (x : Int) (hl : L.length ≤ 1000) {i : Nat} (hi : i = M'.length) : ∃ M2,
    appP (M' ++ [⟨.own, 3, [.int .i64 x]⟩]) 3 1 8 (.slice (some ⟨r, 0, none⟩) L.length 1) (.slice (some ⟨i, 0, none⟩) 1 1) = some (.slice (some ⟨M'.length + 1, 0, none⟩) (L.length + 1) 1, M2) ∧
    Dr M M2 cb id a (M'.length + 1) l (L ++ [x]) := by
  subst hi
  have hge := h.ge
  have hlt := h.hid
  have hlc := h.hcb
  refine ⟨_, app_gen h.own (by omega), ?_⟩
  have w : Cw id M (M'.set r deadB ++ [⟨.own, 3, [.int .i64 x]⟩]) := (h.cw.put hge (by simp [deadB])).ext (noRo_own noRo_nil)
  have k : CurA (M'.set r deadB ++ [⟨.own, 3, [.int .i64 x]⟩]) cb l id a := (h.cur.put (by omega) (by omega) deadB).ext _
  have := Dr.new hlt hlc w k (r := M'.length + 1) (by simp) (L ++ [x])
  simpa [rowB] using this
theorem Dr.st (h : Dr M M' cb id a r l L) {j : Nat} (hj : j < L.length) (x : Int) : stA M' r j [.int .i64 x] = some (M'.set r (rowB (L.set j x))) ∧ Dr M (M'.set r (rowB (L.set j x))) cb id a r l (L.set j x) := by
  have hge := h.ge
  have hlt := h.hid
  have hlc := h.hcb
  exact ⟨h.own.st hj, h.hid, h.hcb, h.cw.put hge (by simp), h.cur.put (by omega) (by omega) _, h.own.set_self, hge⟩
end
theorem Cw.toExt {m M' : Mem} {b : Blk} {cb a : Nat} {l : List Int} (h : Cw m.length (roM m ++ [b]) M') (k : CurA M' cb l m.length a) : Ext m M' := by
  have hl := h.len
  simp only [List.length_append, List.length_cons, List.length_nil, roM_len] at hl
  have e : M' = roM m ++ M'.drop m.length := by
    apply List.ext_getElem?
    intro i
    by_cases hi : i < m.length
    · rw [List.getElem?_append_left (by rw [roM_len]; exact hi), h.old i (by omega) (by simp [roM_len]; omega), List.getElem?_append_left (by rw [roM_len]; exact hi)]
    · rw [List.getElem?_append_right (by rw [roM_len]; omega), List.getElem?_drop, roM_len, Nat.add_sub_cancel' (by omega)]
  refine ⟨M'.drop m.length, e, fun c hc => ?_⟩
  obtain ⟨j, hj, rfl⟩ := List.getElem_of_mem hc
  have hg : M'[m.length + j]? = some (M'.drop m.length)[j] := by
    rw [← List.getElem?_drop, List.getElem?_eq_getElem hj]
  by_cases e0 : j = 0
  · subst e0
    obtain ⟨s, hb⟩ := k.box
    rw [Nat.add_zero, hb] at hg
    rw [← Option.some.inj hg]; simp
  · exact h.new (m.length + j) _ (by simp [roM_len]; omega) hg
end Go.Proofs.Ytjdallbnbjnghaa.Ab
end
section
namespace Go.Proofs.Ytjdallbnbjnghaa.Ab
open Go Go.RowKit
set_option linter.unusedVariables false
set_option linter.unusedSimpArgs false
structure BytesA (m : Mem) (cb : Nat) (l : List Int) : Prop where
  blk : ∃ kd, kd ≠ Kd.dead ∧ m[cb]? = some ⟨kd, 5, l.map (Value.int .u8)⟩
  byte : ∀ x ∈ l, 0 ≤ x ∧ x ≤ 255
  few : l.length ≤ 65536
theorem BytesA.ro {m : Mem} {cb : Nat} {l : List Int} (h : BytesA m cb l) : (roM m)[cb]? = some ⟨.ro, 5, l.map (Value.int .u8)⟩ := by
  obtain ⟨kd, hk, hb⟩ := h.blk
  unfold roM
  rw [List.getElem?_map, hb]
  cases kd with
  | dead => exact absurd rfl hk
  | ro => rfl
  | own => rfl
theorem BytesA.ext {m : Mem} {cb : Nat} {l : List Int} (h : BytesA m cb l) (new : Mem) : BytesA (m ++ new) cb l := by
  obtain ⟨kd, hk, hb⟩ := h.blk
  exact ⟨⟨kd, hk, by rw [List.getElem?_append_left (List.getElem?_eq_some_iff.1 hb).1]; exact hb⟩, h.byte, h.few⟩
theorem CurA.start {m : Mem} {cb fl : Nat} {l : List Int} (h : BytesA m cb l) {id : Nat} (hid : id = m.length) : CurA (roM m ++ [⟨.own, 75, [.slice (some ⟨cb, 0, none⟩) l.length fl, .int .i64 0, .int .u64 0]⟩]) cb l id 0 := by
  subst hid
  have hb := h.ro
  have hlt := (List.getElem?_eq_some_iff.1 hb).1
  refine ⟨by rw [List.getElem?_append_left hlt]; exact hb, h.byte, h.few, (fl, 0), ?_⟩
  rw [List.getElem?_append_right (by rw [roM_len]; omega), roM_len]
  simp
theorem bldCur (A : Option Addr) (n c : Nat) : bldA [.slice none 0 0, .int .i64 0, .int .u64 0] [(0, 1, .slice A n c)] = some (.agg #[.slice A n c, .int .i64 0, .int .u64 0]) := rfl

theorem argB {W : World} {A : Option Addr} {c : Nat} {l : List Int} (hr : Rd W W.heap.size A (l.map (Value.int .u8))) (hlc : l.length ≤ c) (hc : c ≤ maxLen) :
    ∃ p, MRel W W.heap.size [p] [⟨.ro, 5, l.map (Value.int .u8)⟩] W ∧ VR [p] (.slice (some ⟨0, 0, none⟩) l.length 0) (.slice A l.length c) := by
  have h := MRel.start W
  by_cases hl : 0 < l.length
  · obtain ⟨b, off, rfl, hb, hcell⟩ := hr (by simpa using hl)
    refine ⟨(b, off, 0), by
      have := h.addRo (e := 5) (xs := l.map (Value.int .u8)) (b := b) (o := off) (tot := 0) (fun k x hx => ⟨hb, x, hcell k x hx, by
        rw [List.getElem?_map] at hx
        cases hk : l[k]? with
        | none => rw [hk] at hx; cases hx
        | some z => rw [hk] at hx; cases hx; exact .int _ _⟩)
      simpa using this, .sl (b := b) (o := off) (tot := 0) (by simp) hlc hc (fun _ _ => by simp) (fun hf => absurd hf (by omega))⟩
  · have hl0 : l = [] := List.eq_nil_of_length_eq_zero (by omega)
    subst hl0
    exact ⟨(0, 0, 0), by
      have := h.addRo (e := 5) (xs := []) (b := 0) (o := 0) (tot := 0) (fun k x hx => by simp at hx)
      simpa using this, .sl (b := 0) (o := 0) (tot := 0) (by simp) hlc hc (fun _ hp => absurd hp (by simp)) (fun hf => absurd hf (by omega))⟩
end Go.Proofs.Ytjdallbnbjnghaa.Ab
end
section
namespace Go.Proofs.Ytjdallbnbjnghaa
open Go.RowKit Go.ChangeShapes Go.WideShapes Go.ChangeAt
open Go.WideMaps Go.WideElems
set_option linter.unusedVariables false
section
variable {H : Type} {enc : TypeId × Value → H} {W : World}
def pairC (p : Int × Int) : List Value := [.int .i64 p.1, .int .i64 p.2]
def pairsC (L : List (Int × Int)) : List Value := (L.map pairC).flatten
theorem pairsC_len (L : List (Int × Int)) : (pairsC L).length = L.length * 2 := by
  induction L with
  | nil => rfl
  | cons p L ih => simp only [pairsC, List.map_cons, List.flatten_cons, List.length_append, List.length_cons] at ih ⊢; rw [ih]; simp [pairC]; omega
theorem pairsC_at : ∀ (L : List (Int × Int)) (k : Nat), k < L.length → (pairsC L)[k * 2]? = some (.int .i64 (L.getD k (0, 0)).1) ∧ (pairsC L)[k * 2 + 1]? = some (.int .i64 (L.getD k (0, 0)).2)
  | p :: L, 0, _ => ⟨rfl, rfl⟩
  | p :: L, k + 1, h => by
    have ih := pairsC_at L k (by simpa using h)
    have e1 : (k + 1) * 2 = k * 2 + 1 + 1 := by omega
    rw [e1]
    exact ⟨ih.1, ih.2⟩
  | [], k, h => absurd h (by simp)
end
end Go.Proofs.Ytjdallbnbjnghaa
end
section
namespace Go.Proofs.Ytjdallbnbjnghaa.Ab
open Go Go.RowKit
set_option linter.unusedVariables false
set_option linter.unusedSimpArgs false
def Lv (lo hi : Nat) (m : Mem) (P : Mem → Prop) : Prop := lo ≤ hi ∧ hi ≤ m.length ∧ ∀ m' : Mem, (∀ i, lo ≤ i → i < hi → m'[i]? = m[i]?) → P m'
def But (lo hi : Nat) (m m' : Mem) : Prop := m.length ≤ m'.length ∧ ∀ i, i < m.length → (i < lo ∨ hi ≤ i) → m'[i]? = m[i]?
section
variable {lo hi a b : Nat} {m m' : Mem} {P : Mem → Prop}
theorem Lv.now (h : Lv lo hi m P) : P m := h.2.2 m fun _ _ _ => rfl
theorem Lv.ext (h : Lv lo hi m P) (new : Mem) : Lv lo hi (m ++ new) P :=
  ⟨h.1, by have := h.2.1; rw [List.length_append]; omega, fun m' h' => h.2.2 m' fun i h1 h2 => by rw [h' i h1 h2, List.getElem?_append_left (by have := h.2.1; omega)]⟩
theorem Lv.mono {Q : Mem → Prop} (h : Lv lo hi m P) (hq : ∀ M, P M → Q M) : Lv lo hi m Q := ⟨h.1, h.2.1, fun m' h' => hq _ (h.2.2 m' h')⟩
theorem Lv.ro (h : Lv lo hi m P) (hp : ∀ M, P M → P (roM M)) : P (roM m) := hp _ h.now
theorem Lv.all (hx : ∀ new, P (m ++ new)) : Lv 0 m.length m P :=
  ⟨Nat.zero_le _, Nat.le_refl _, fun m' h' => by
    have e : m' = m ++ m'.drop m.length := by
      apply List.ext_getElem?
      intro i
      by_cases hi : i < m.length
      · rw [List.getElem?_append_left hi]; exact h' i (by omega) hi
      · rw [List.getElem?_append_right (by omega), List.getElem?_drop]; congr 1; omega
    rw [e]; exact hx _⟩
theorem But.refl (lo hi : Nat) (m : Mem) : But lo hi m m := ⟨Nat.le_refl _, fun _ _ _ => rfl⟩
theorem But.ext (h : But lo hi m m') (new : Mem) : But lo hi m (m' ++ new) :=
  ⟨by have := h.1; rw [List.length_append]; omega, fun i h1 h2 => by rw [List.getElem?_append_left (by have := h.1; omega)]; exact h.2 i h1 h2⟩
theorem But.set (h : But lo hi m m') {id : Nat} (h1 : lo ≤ id) (h2 : id < hi) (x : Blk) : But lo hi m (m'.set id x) :=
  ⟨by rw [List.length_set]; exact h.1, fun i h3 h4 => by rw [List.getElem?_set_ne (by omega)]; exact h.2 i h3 h4⟩
theorem But.trans {m2 : Mem} (h : But lo hi m m') (h' : But lo hi m' m2) : But lo hi m m2 :=
  ⟨Nat.le_trans h.1 h'.1, fun i h1 h2 => by rw [h'.2 i (by have := h.1; omega) h2]; exact h.2 i h1 h2⟩
theorem But.base {new : Mem} (h : But lo hi (m ++ new) m') : But lo hi m m' :=
  ⟨by have := h.1; rw [List.length_append] at this; omega, fun i h1 h2 => by rw [h.2 i (by rw [List.length_append]; omega) h2, List.getElem?_append_left h1]⟩
end
def AnsO (m : Mem) (O : Nat → Nat → Mem → Value → Prop) (f : Value → Value) (r : Value) (new : Mem) : Prop :=
  NoRo new ∧ ∃ v, r = f v ∧ Lv m.length (m.length + new.length) (m ++ new) fun M => O m.length (m.length + new.length) M v
theorem ext_ansO {m M : Mem} {O : Nat → Nat → Mem → Value → Prop} {f : Value → Value} {v : Value} (h : Ext m M) (hO : ∀ M', (∀ i, m.length ≤ i → i < M.length → M'[i]? = M[i]?) → O m.length M.length M' v) : newQ m (AnsO m O f) (f v) M := by
  obtain ⟨n0, rfl, h0⟩ := h
  have hl : (roM m ++ n0).length = m.length + n0.length := by rw [List.length_append, roM_len]
  refine ⟨n0, rfl, h0, h0, v, rfl, by omega, by rw [List.length_append]; omega, fun M' hM => ?_⟩
  rw [← hl]
  refine hO M' fun i h1 h2 => ?_
  rw [hl] at h2
  rw [hM i h1 h2, List.getElem?_append_right h1, List.getElem?_append_right (by rw [roM_len]; exact h1), roM_len]

def OwnB (M : Mem) (id : Nat) (e : TypeId) (cs : List Value) : Prop := M[id]? = some ⟨.own, e, cs⟩
section
variable {M M' : Mem} {id id' : Nat} {e e' : TypeId} {cs cs' : List Value}
theorem OwnB.lt (h : OwnB M id e cs) : id < M.length := (List.getElem?_eq_some_iff.1 h).1
theorem OwnB.ext (h : OwnB M id e cs) (R : Mem) : OwnB (M ++ R) id e cs := by
  unfold OwnB; rw [List.getElem?_append_left h.lt]; exact h
theorem OwnB.set_ne (h : OwnB M id' e cs) (hne : id ≠ id') (b : Blk) : OwnB (M.set id b) id' e cs := by
  unfold OwnB; rw [List.getElem?_set_ne hne]; exact h
theorem OwnB.set_self (h : OwnB M id e cs) (e' : TypeId) (cs' : List Value) : OwnB (M.set id ⟨.own, e', cs'⟩) id e' cs' := by
  unfold OwnB; rw [List.getElem?_set_self h.lt]
theorem OwnB.ne (h : OwnB M id e cs) (h' : OwnB M id' e' cs') (he : e ≠ e') : id ≠ id' := fun hi => by
  subst hi
  unfold OwnB at h h'
  rw [h] at h'
  cases h'
  exact he rfl
theorem OwnB.rd (h : OwnB M id e cs) (k : Nat) : rdc M id k = cs[k]? := by
  unfold OwnB at h; simp [rdc, h]
theorem OwnB.here (h : id = M.length) : OwnB (M ++ [⟨.own, e, cs⟩]) id e cs := by unfold OwnB; rw [h]; simp
theorem OwnB.st (h : OwnB M id e cs) {off : Nat} {vs : List Value} (h2 : off + vs.length ≤ cs.length) (h1 : onesB vs = true) : stA M id off vs = some (M.set id ⟨.own, e, putL cs off vs⟩) := by
  unfold OwnB at h; simp [stA, h, h1, h2]
theorem OwnB.rdl (h : OwnB M id e cs) {k : Nat} (hk : k = cs.length) : rdl M id 0 k = some cs := by
  unfold OwnB at h
  subst hk
  simp [Ab.rdl, h]
theorem OwnB.at_ (h : OwnB M id e cs) (h2 : M'[id]? = M[id]?) : OwnB M' id e cs := by unfold OwnB; rw [h2]; exact h
theorem OwnR.at_ {l : List Int} (h : OwnR M id l) (h2 : M'[id]? = M[id]?) : OwnR M' id l := by unfold OwnR; rw [h2]; exact h
end
def IntsO (l : List Int) (lo hi : Nat) (M : Mem) (v : Value) : Prop :=
  l.length ≤ 1048576 ∧ ∃ id fl, v = .slice (some ⟨id, 0, none⟩) l.length fl ∧ lo ≤ id ∧ id < hi ∧ OwnR M id l
theorem IntsO.in {l : List Int} {lo hi : Nat} {M : Mem} {v : Value} (h : IntsO l lo hi M v) : IntsA M v l := by
  obtain ⟨hl, id, fl, rfl, _, _, ho⟩ := h
  exact ho.ints (by omega) fl
theorem IntsO.lv {l : List Int} {lo hi : Nat} {m : Mem} {v : Value} (h : IntsO l lo hi m v) (h1 : hi ≤ m.length) : Lv lo hi m fun M => IntsO l lo hi M v := by
  obtain ⟨hl, id, fl, rfl, a, b, ho⟩ := h
  exact ⟨by omega, h1, fun m' h' => ⟨hl, id, fl, rfl, a, b, ho.at_ (h' id a b)⟩⟩
theorem AnsL.obj {m : Mem} {l : List Int} {ok : Bool} {r : Value} {new : Mem} (h : AnsL m l ok r new) : AnsO m (IntsO l) (fun v => .tuple #[v, .bool ok]) r new := by
  obtain ⟨hn, hl, i, fl, rfl, hi⟩ := h
  have hlt := (List.getElem?_eq_some_iff.1 hi).1
  exact ⟨hn, _, rfl, IntsO.lv ⟨hl, _, fl, rfl, by omega, by omega, OwnR.new hi rfl⟩ (by simp)⟩

def PairsA (m : Mem) (v : Value) (L : List (Int × Int)) : Prop :=
  L.length ≤ 9223372036854775807 ∧ ∃ id fl, v = .slice (some ⟨id, 0, none⟩) L.length fl ∧ ∀ k, k < L.length → rdc m id (k * 2) = some (.int .i64 (L.getD k (0, 0)).1) ∧ rdc m id (k * 2 + 1) = some (.int .i64 (L.getD k (0, 0)).2)
theorem PairsA.ext {m : Mem} {v : Value} {L : List (Int × Int)} (h : PairsA m v L) (new : Mem) : PairsA (m ++ new) v L := by
  obtain ⟨hb, id, fl, rfl, hc⟩ := h
  exact ⟨hb, id, fl, rfl, fun k hk => ⟨rdc_ext (hc k hk).1, rdc_ext (hc k hk).2⟩⟩
theorem PairsA.ro {m : Mem} {v : Value} {L : List (Int × Int)} (h : PairsA m v L) : PairsA (roM m) v L := by
  obtain ⟨hb, id, fl, rfl, hc⟩ := h
  exact ⟨hb, id, fl, rfl, fun k hk => by rw [rdc_roM, rdc_roM]; exact hc k hk⟩
def PairsO (e : TypeId) (L : List (Int × Int)) (lo hi : Nat) (M : Mem) (v : Value) : Prop :=
  L.length ≤ 1048576 ∧ ∃ id fl, v = .slice (some ⟨id, 0, none⟩) L.length fl ∧ lo ≤ id ∧ id < hi ∧ OwnB M id e (pairsC L)
theorem PairsO.in {e : TypeId} {L : List (Int × Int)} {lo hi : Nat} {M : Mem} {v : Value} (h : PairsO e L lo hi M v) : PairsA M v L := by
  obtain ⟨hl, id, fl, rfl, _, _, ho⟩ := h
  exact ⟨by omega, id, fl, rfl, fun k hk => by rw [ho.rd, ho.rd]; exact pairsC_at L k hk⟩
structure TabA (m : Mem) (v : Value) (T : List (List Int)) : Prop where
  len : lenA v = some (.int .i64 T.length)
  bd : T.length ≤ 9223372036854775807
  at_ : ∀ k, k < T.length → iadA 1 v (.int .i64 (k : Int)) = some (pAt v k)
  ld : ∀ k, k < T.length → ∃ u, ldA m none (pAt v k) = some u ∧ IntsA m u (T.getD k [])
  fm : ∃ id fl, v = .slice (some ⟨id, 0, none⟩) T.length fl
theorem TabA.ext {m : Mem} {v : Value} {T : List (List Int)} (h : TabA m v T) (new : Mem) : TabA (m ++ new) v T :=
  ⟨h.len, h.bd, h.at_, fun k hk => by obtain ⟨u, h1, h2⟩ := h.ld k hk; exact ⟨u, ldA_ext h1, h2.ext new⟩, h.fm⟩
theorem TabA.ro {m : Mem} {v : Value} {T : List (List Int)} (h : TabA m v T) : TabA (roM m) v T :=
  ⟨h.len, h.bd, h.at_, fun k hk => by obtain ⟨u, h1, h2⟩ := h.ld k hk; exact ⟨u, by rw [ldA_roM]; exact h1, h2.ro⟩, h.fm⟩
theorem TabA.blk {m : Mem} {id fl : Nat} {T : List (List Int)} (hb : T.length ≤ 9223372036854775807) (h : ∀ k, k < T.length → ∃ u, rdc m id k = some u ∧ IntsA m u (T.getD k [])) : TabA m (.slice (some ⟨id, 0, none⟩) T.length fl) T := by
  refine ⟨rfl, hb, fun k hk => ?_, fun k hk => ?_, _, _, rfl⟩
  · simp only [iadA, pAt, Int.toNat_natCast, Nat.mul_one]
    rw [if_pos (by omega)]
  · obtain ⟨u, h1, h2⟩ := h k hk
    exact ⟨u, by simp only [pAt, ldA, Nat.zero_add]; exact h1, h2⟩
def tsz (T : List (List Int)) : Nat → Int
  | 0 => 0
  | k + 1 => tsz T k + ((T.getD k []).length : Int)
theorem tsz_le (T : List (List Int)) {j k : Nat} (h : j ≤ k) : tsz T j ≤ tsz T k := by
  induction k with
  | zero => rw [show j = 0 by omega]; exact Int.le_refl _
  | succ k ih =>
    by_cases e : j = k + 1
    · rw [e]; exact Int.le_refl _
    · have := ih (by omega)
      simp only [tsz]; omega
theorem tsz_row (T : List (List Int)) {j k : Nat} (h : j < k) : ((T.getD j []).length : Int) ≤ tsz T k := by
  have h1 := tsz_le T (j := j + 1) (k := k) (by omega)
  have h2 := tsz_le T (j := 0) (k := j) (by omega)
  simp only [tsz] at h1 h2; omega
def rowsC (T : List (List Int)) (R F : Nat → Nat) : List Value := (List.range T.length).map fun j => .slice (some ⟨R j, 0, none⟩) (T.getD j []).length (F j)
theorem rowsC_at {T : List (List Int)} {R F : Nat → Nat} {j : Nat} (h : j < T.length) : (rowsC T R F)[j]? = some (.slice (some ⟨R j, 0, none⟩) (T.getD j []).length (F j)) := by
  simp [rowsC, h]
def TabO (T : List (List Int)) (lo hi : Nat) (M : Mem) (v : Value) : Prop :=
  T.length ≤ 1048576 ∧ tsz T T.length ≤ 1048576 ∧ ∃ id fl R F, v = .slice (some ⟨id, 0, none⟩) T.length fl ∧ lo ≤ id ∧ id < hi ∧ OwnB M id 24 (rowsC T R F) ∧
    (∀ j, j < T.length → lo ≤ R j ∧ R j < hi ∧ OwnR M (R j) (T.getD j [])) ∧ ∀ i j, i < T.length → j < T.length → R i = R j → i = j
theorem TabO.in {T : List (List Int)} {lo hi : Nat} {M : Mem} {v : Value} (h : TabO T lo hi M v) : TabA M v T := by
  obtain ⟨hl, hs, id, fl, R, F, rfl, _, _, ho, hr, _⟩ := h
  exact TabA.blk (by omega) fun k hk => ⟨_, by rw [ho.rd]; exact rowsC_at hk, (hr k hk).2.2.ints (by have := tsz_row T hk; omega) _⟩
end Go.Proofs.Ytjdallbnbjnghaa.Ab
end
section
namespace Go.Proofs.Ytjdallbnbjnghaa.Ab
open Go Go.RowKit
set_option linter.unusedVariables false
set_option linter.unusedSimpArgs false
theorem appB {M : Mem} {id1 id2 : Nat} {e : TypeId} {sz byt n1 n2 fl : Nat} {cs1 cs2 : List Value} (h1 : OwnB M id1 e cs1) (h2 : OwnB M id2 e cs2) (l1 : cs1.length = n1 * sz) (l2 : cs2.length = n2 * sz) (ho : onesB cs2 = true)
    (hb : n1 + n2 ≤ 1048576) (hy : byt ≤ 1000000) :
    appP M e sz byt (.slice (some ⟨id1, 0, none⟩) n1 sz) (.slice (some ⟨id2, 0, none⟩) n2 fl) = some (.slice (some ⟨M.length, 0, none⟩) (n1 + n2) sz, M.set id1 deadB ++ [⟨.own, e, cs1 ++ cs2⟩]) := by
  have e1 : slR M sz (.slice (some ⟨id2, 0, none⟩) n2 fl) = some cs2 := by
    simp only [slR]; exact h2.rdl l2.symm
  have hm : (n1 + n2) * byt ≤ 1048576 * 1000000 := Nat.mul_le_mul hb hy
  unfold appP
  rw [e1]
  simp only [ho, if_true, appA, lenOfA]
  rw [show M[id1]? = some ⟨.own, e, cs1⟩ from h1]
  simp only [l1, true_and]
  rw [if_pos (by omega)]
theorem app_back {M : Mem} {id id2 n : Nat} {e : TypeId} {sz byt : Nat} {cs ys : List Value} (h : OwnB M id e cs) (h2 : id2 = M.length) (l1 : cs.length = n * sz) (l2 : ys.length = sz) (ho : onesB ys = true) (hb : n ≤ 1000000) (hy : byt ≤ 1000000) :
    appP (M ++ [⟨.own, e, ys⟩]) e sz byt (.slice (some ⟨id, 0, none⟩) n sz) (.slice (some ⟨id2, 0, none⟩) 1 sz) =
      some (.slice (some ⟨id2 + 1, 0, none⟩) (n + 1) sz, M.set id deadB ++ [⟨.own, e, ys⟩] ++ [⟨.own, e, cs ++ ys⟩]) := by
  subst h2
  rw [appB (h.ext _) (OwnB.here rfl) l1 (by rw [l2, Nat.one_mul]) ho (by omega) hy, List.set_append_left _ _ h.lt]
  simp
theorem bsl_pair {m : Mem} {e : TypeId} {a b : Int} : bslA m e 2 1 [.int .i64 0, .int .i64 0] [(0, 2, .agg #[.int .i64 a, .int .i64 b])] = some (.slice (some ⟨m.length, 0, none⟩) 1 2, m ++ [⟨.own, e, [.int .i64 a, .int .i64 b]⟩]) := rfl
theorem bsl_no {m : Mem} {e : TypeId} {sz : Nat} : bslA m e sz 0 [] [] = some (.slice (some ⟨m.length, 0, none⟩) 0 sz, m ++ [⟨.own, e, []⟩]) := rfl
theorem app_num {M : Mem} {l : List Int} {x : Int} {id id2 n : Nat} (h : OwnR M id l) (hb : l.length ≤ 1048576) (h2 : id2 = M.length) (hn : n = l.length) :
    appP (M ++ [⟨.own, 3, [.int .i64 x]⟩]) 3 1 8 (.slice (some ⟨id, 0, none⟩) n 1) (.slice (some ⟨id2, 0, none⟩) 1 1) =
      some (.slice (some ⟨id2 + 1, 0, none⟩) (n + 1) 1, M.set id deadB ++ [⟨.own, 3, [.int .i64 x]⟩] ++ [⟨.own, 3, (l ++ [x]).map (Value.int .i64)⟩]) := by
  subst h2 hn
  exact app_gen h hb
def TabX (T : List (List Int)) (lo hi : Nat) (M : Mem) (id : Nat) (R F : Nat → Nat) : Prop :=
  lo ≤ id ∧ id < hi ∧ OwnB M id 24 (rowsC T R F) ∧ (∀ j, j < T.length → lo ≤ R j ∧ R j < hi ∧ OwnR M (R j) (T.getD j [])) ∧ ∀ i j, i < T.length → j < T.length → R i = R j → i = j
theorem TabX.at_ {T : List (List Int)} {lo hi : Nat} {M M' : Mem} {id : Nat} {R F : Nat → Nat} (h : TabX T lo hi M id R F) (hs : ∀ i, lo ≤ i → i < hi → M'[i]? = M[i]?) : TabX T lo hi M' id R F :=
  ⟨h.1, h.2.1, h.2.2.1.at_ (hs _ h.1 h.2.1), fun j hj => by obtain ⟨a, b, c⟩ := h.2.2.2.1 j hj; exact ⟨a, b, c.at_ (hs _ a b)⟩, h.2.2.2.2⟩
theorem TabX.ext {T : List (List Int)} {lo hi : Nat} {M : Mem} {id : Nat} {R F : Nat → Nat} (h : TabX T lo hi M id R F) (hh : hi ≤ M.length) (new : Mem) : TabX T lo hi (M ++ new) id R F :=
  h.at_ fun i _ h2 => List.getElem?_append_left (by omega)
theorem TabX.row {T : List (List Int)} {lo hi : Nat} {M : Mem} {id : Nat} {R F : Nat → Nat} (h : TabX T lo hi M id R F) {j : Nat} (hj : j < T.length) (hb : (T.getD j []).length ≤ 1048576) :
    rdc M id j = some (.slice (some ⟨R j, 0, none⟩) (T.getD j []).length (F j)) ∧ IntsA M (.slice (some ⟨R j, 0, none⟩) (T.getD j []).length (F j)) (T.getD j []) :=
  ⟨by rw [h.2.2.1.rd]; exact rowsC_at hj, (h.2.2.2.1 j hj).2.2.ints (by omega) _⟩
theorem rowsC_cons {T : List (List Int)} {r : List Int} {R F : Nat → Nat} {rid f : Nat} :
    rowsC (r :: T) (fun j => if j = 0 then rid else R (j - 1)) (fun j => if j = 0 then f else F (j - 1)) = .slice (some ⟨rid, 0, none⟩) r.length f :: rowsC T R F := by
  unfold rowsC
  rw [List.length_cons, List.range_succ_eq_map, List.map_cons, List.map_map]
  congr 1
theorem TabX.cons {T : List (List Int)} {r : List Int} {lo hi hi' : Nat} {M M' : Mem} {id id' rid f : Nat} {R F : Nat → Nat} (h : TabX T lo hi M id R F) (hs : ∀ i, lo ≤ i → i < hi → M'[i]? = M[i]?)
    (h1 : lo ≤ id') (h2 : id' < hi') (h3 : OwnB M' id' 24 (.slice (some ⟨rid, 0, none⟩) r.length f :: rowsC T R F)) (h4 : hi ≤ rid) (h5 : rid < hi') (h6 : OwnR M' rid r) (h7 : hi ≤ hi') :
    TabX (r :: T) lo hi' M' id' (fun j => if j = 0 then rid else R (j - 1)) (fun j => if j = 0 then f else F (j - 1)) := by
  have hx := h.at_ hs
  refine ⟨h1, h2, by rw [rowsC_cons]; exact h3, fun j hj => ?_, fun i j hi hj he => ?_⟩
  · cases j with
    | zero => exact ⟨by have := h.1; have := h.2.1; simp; omega, by simpa using h5, by simpa using h6⟩
    | succ j =>
      obtain ⟨a, b, c⟩ := hx.2.2.2.1 j (by simpa using hj)
      exact ⟨by simpa using a, by simp; omega, by simpa using c⟩
  · cases i with
    | zero =>
      cases j with
      | zero => rfl
      | succ j =>
        have := (h.2.2.2.1 j (by simpa using hj)).2.1
        simp at he; omega
    | succ i =>
      cases j with
      | zero =>
        have := (h.2.2.2.1 i (by simpa using hi)).2.1
        simp at he; omega
      | succ j =>
        have := h.2.2.2.2 i j (by simpa using hi) (by simpa using hj) (by simpa using he)
        omega
theorem TabX.obj {T : List (List Int)} {lo hi : Nat} {M : Mem} {id fl : Nat} {R F : Nat → Nat} (h : TabX T lo hi M id R F) (h1 : T.length ≤ 1048576) (h2 : tsz T T.length ≤ 1048576) : TabO T lo hi M (.slice (some ⟨id, 0, none⟩) T.length fl) :=
  ⟨h1, h2, id, fl, R, F, rfl, h.1, h.2.1, h.2.2.1, h.2.2.2.1, h.2.2.2.2⟩
theorem ext_noPairs {m A : Mem} {f : Value → Value} {e : TypeId} {id : Nat} (hX : Ext m A) (hid : id = A.length) : newQ m (AnsO m (PairsO e []) f) (f (.slice (some ⟨id, 0, none⟩) 0 2)) (A ++ [⟨.own, e, []⟩]) := by
  subst hid
  exact ext_ansO (hX.one _ _) fun M' hM => ⟨by simp, _, 2, rfl, hX.len, by simp, (OwnB.here rfl).at_ (hM _ hX.len (by simp))⟩
end Go.Proofs.Ytjdallbnbjnghaa.Ab
end
section
namespace Go.Proofs.Ytjdallbnbjnghaa.Ab
open Go Go.RowKit
set_option linter.unusedVariables false
set_option linter.unusedSimpArgs false
set_option maxRecDepth 10000
theorem bl_c0 (m : Mem) : bslA m 3 1 7 [.int .i64 0, .int .i64 0, .int .i64 0, .int .i64 0, .int .i64 0, .int .i64 0, .int .i64 0] [(0, 1, .int .i64 5), (1, 1, .int .i64 8), (2, 1, .int .i64 3), (3, 1, .int .i64 1), (4, 1, .int .i64 0), (5, 1, .int .i64 12), (6, 1, .int .i64 20)] = some (.slice (some ⟨m.length, 0, none⟩) 7 1, m ++ [rowB [5, 8, 3, 1, 0, 12, 20]]) := rfl
theorem bl_c1 (m : Mem) : bslA m 3 1 6 [.int .i64 0, .int .i64 0, .int .i64 0, .int .i64 0, .int .i64 0, .int .i64 0] [(0, 1, .int .i64 0), (1, 1, .int .i64 1), (2, 1, .int .i64 2), (3, 1, .int .i64 3), (4, 1, .int .i64 5), (5, 1, .int .i64 8)] = some (.slice (some ⟨m.length, 0, none⟩) 6 1, m ++ [rowB [0, 1, 2, 3, 5, 8]]) := rfl
theorem bl_c2 (m : Mem) : bslA m 3 1 3 [.int .i64 0, .int .i64 0, .int .i64 0] [(0, 1, .int .i64 (-1)), (1, 1, .int .i64 20), (2, 1, .int .i64 21)] = some (.slice (some ⟨m.length, 0, none⟩) 3 1, m ++ [rowB [-1, 20, 21]]) := rfl
theorem bsl_noneR {m : Mem} : bslA m 3 1 0 [] [] = some (.slice (some ⟨m.length, 0, none⟩) 0 1, m ++ [rowB []]) := rfl
set_option maxHeartbeats 4000000 in
theorem calls_ac (M : Mem) (cb id a : Nat) (l : List Int) (h : CurA M cb l id a) (ha : a ≤ 999999000) :
    AC Try.prog 48 [.pointer (some ⟨id, 0, none⟩)] M fun v M' => ∃ (L : List Int) (r a' : Nat), v = .slice (some ⟨r, 0, none⟩) L.length 1 ∧ L.length ≤ 21 ∧ a' ≤ a + 60 ∧ Dr M M' cb id a' r l L := by
  refine ac_of_run mixed ok_spec_l1Cur__calls (by simp) (go_start _ _ _ ?_)
  simp (config := {implicitDefEqProofs := false, maxDischargeDepth := 20}) (disch := first | omega | (simp only [lenE]; done) | (simp only [lenE]; omega) | rfl | (simp only [lenE, markR_len]; done) | (simp only [lenE, markR_len]; omega)) only [runE, mapE, listE, initT_5, initT_6, initT_7, initT_8, resV, oneV, binA, unA, reduceCtorEq, Nat.reduceEqDiff, Nat.reduceAdd, Nat.reduceLT, Nat.reduceLeDiff, Nat.reduceMul, Nat.reduceSub, ↓reduceIte, decide_true, decide_false, Bool.true_eq_false, Bool.false_eq_true, Bool.not_true, Bool.not_false, if_true, if_false, and_true, true_and, memE, celE, w64, Nat.zero_add, Nat.add_zero, Nat.mul_one, putL, and_self, ldn, c_spec_l1Cur__calls, r_spec_l1Cur__calls, bsl_noneR, bl_c0]
  have d : Dr M (M ++ [rowB []]) cb id a M.length l [] := Dr.new h.lt h.cblt (Cw.refl id M) h rfl []
  obtain ⟨E, hE⟩ : ∃ E, E = M ++ [rowB []] := ⟨_, rfl⟩
  have LE : M.length + 1 = E.length := by rw [hE]; simp
  rw [← hE] at d
  try rw [← hE, LE]
  clear hE
  refine callH_ac (among_new E cb id a l [5, 8, 3, 1, 0, 12, 20] d.cur (by omega) rfl rfl (by simp) (by simp)) ?_
  rintro v E1 ⟨y, hy, rfl, w, a1, h1, k⟩
  have d := d.draw w k
  clear w k
  have hy2 : 0 ≤ y ∧ y ≤ 20 := by
    simp only [List.mem_cons, List.not_mem_nil, or_false] at hy
    omega
  simp (config := {implicitDefEqProofs := false, maxDischargeDepth := 20}) (disch := first | omega | (simp only [lenE]; done) | (simp only [lenE]; omega) | rfl | (simp only [lenE, markR_len]; done) | (simp only [lenE, markR_len]; omega)) only [runE, mapE, listE, initT_5, initT_6, initT_7, initT_8, resV, oneV, binA, unA, reduceCtorEq, Nat.reduceEqDiff, Nat.reduceAdd, Nat.reduceLT, Nat.reduceLeDiff, Nat.reduceMul, Nat.reduceSub, ↓reduceIte, decide_true, decide_false, Bool.true_eq_false, Bool.false_eq_true, Bool.not_true, Bool.not_false, if_true, if_false, and_true, true_and, memE, celE, w64, Nat.zero_add, Nat.add_zero, Nat.mul_one, putL, and_self, ldn]
  refine loop_inv mixed (fun s => ∃ (k : Nat) (N : Mem) (r b : Nat) (L : List Int), s.t 4 = .int .i64 k ∧ L.length + k ≤ 20 ∧ b + 2 * k ≤ a + 50 ∧ s.m = N ∧ Dr M N cb id b r l L ∧ s.t 0 = .pointer (some ⟨id, 0, none⟩) ∧ s.t 3 = .slice (some ⟨r, 0, none⟩) L.length 1) (fun s => (intOf (s.t 4)).toNat)
    ⟨y.toNat, _, M.length, a1, [], by simp only [put_t, put_t', put_m, putT_t, putT_t', putT_m, init_t, init_m, initT_0, initT_1, initT_2, initT_3, initT_4, initT_5, initT_6, initT_7, initT_8, Nat.reduceEqDiff, ↓reduceIte]; rw [Int.toNat_of_nonneg hy2.1], by simp; omega, by omega, rfl, d, rfl, rfl⟩ ?_
  clear d
  rintro s ⟨k, N, r, b, L, t4, hL, hb, tm, d, t0, t3⟩
  by_cases hk : 0 < k
  · have hk' : (0 : Int) < (k : Int) := by omega
    simp (config := {implicitDefEqProofs := false, maxDischargeDepth := 20}) (disch := first | omega | (simp only [lenE]; done) | (simp only [lenE]; omega) | rfl | (simp only [lenE, markR_len]; done) | (simp only [lenE, markR_len]; omega)) only [runE, mapE, listE, initT_5, initT_6, initT_7, initT_8, resV, oneV, binA, unA, reduceCtorEq, Nat.reduceEqDiff, Nat.reduceAdd, Nat.reduceLT, Nat.reduceLeDiff, Nat.reduceMul, Nat.reduceSub, ↓reduceIte, decide_true, decide_false, Bool.true_eq_false, Bool.false_eq_true, Bool.not_true, Bool.not_false, if_true, if_false, and_true, true_and, memE, celE, w64, Nat.zero_add, Nat.add_zero, Nat.mul_one, putL, and_self, ldn, tm, t0, t3, t4, gt_iff_lt, hk', bl_c1]
    refine callH_ac (among_new N cb id b l [0, 1, 2, 3, 5, 8] d.cur (by omega) rfl rfl (by simp) (by simp)) ?_
    rintro v N1 ⟨x, -, rfl, w, b1, hb1, kk⟩
    have d := d.draw w kk
    clear w kk
    obtain ⟨N2, ap, d2⟩ := d.app x (by omega) rfl
    simp (config := {implicitDefEqProofs := false, maxDischargeDepth := 20}) (disch := first | omega | (simp only [lenE]; done) | (simp only [lenE]; omega) | rfl | (simp only [lenE, markR_len]; done) | (simp only [lenE, markR_len]; omega)) only [runE, mapE, listE, initT_5, initT_6, initT_7, initT_8, resV, oneV, binA, unA, reduceCtorEq, Nat.reduceEqDiff, Nat.reduceAdd, Nat.reduceLT, Nat.reduceLeDiff, Nat.reduceMul, Nat.reduceSub, ↓reduceIte, decide_true, decide_false, Bool.true_eq_false, Bool.false_eq_true, Bool.not_true, Bool.not_false, if_true, if_false, and_true, true_and, memE, celE, w64, Nat.zero_add, Nat.add_zero, Nat.mul_one, putL, and_self, ldn, tm, t0, t3, t4, bsl_one, ap]
    refine ⟨⟨k - 1, _, _, b1, L ++ [x], by congr 1; omega, by simp; omega, by omega, rfl, d2, by simp⟩, ?_⟩
    simp [intOf]; omega
  · have hk' : ¬ ((0 : Int) < (k : Int)) := by omega
    simp (config := {implicitDefEqProofs := false, maxDischargeDepth := 20}) (disch := first | omega | (simp only [lenE]; done) | (simp only [lenE]; omega) | rfl | (simp only [lenE, markR_len]; done) | (simp only [lenE, markR_len]; omega)) only [runE, mapE, listE, initT_5, initT_6, initT_7, initT_8, resV, oneV, binA, unA, reduceCtorEq, Nat.reduceEqDiff, Nat.reduceAdd, Nat.reduceLT, Nat.reduceLeDiff, Nat.reduceMul, Nat.reduceSub, ↓reduceIte, decide_true, decide_false, Bool.true_eq_false, Bool.false_eq_true, Bool.not_true, Bool.not_false, if_true, if_false, and_true, true_and, memE, celE, w64, Nat.zero_add, Nat.add_zero, Nat.mul_one, putL, and_self, ldn, tm, t0, t3, t4, gt_iff_lt, hk']
    refine callH_ac (pick_ac N cb id b l 40 d.cur (by omega) (by omega) (by omega)) ?_
    rintro v N1 ⟨p, rfl, hp0, hp1, w, b1, hb1, kk⟩
    have d := d.draw w kk
    clear w kk
    by_cases p0 : p = 0
    · have q0 : (p == 0) = true := by simp [p0]
      simp (config := {implicitDefEqProofs := false, maxDischargeDepth := 20}) (disch := first | omega | (simp only [lenE]; done) | (simp only [lenE]; omega) | rfl | (simp only [lenE, markR_len]; done) | (simp only [lenE, markR_len]; omega)) only [runE, mapE, listE, initT_5, initT_6, initT_7, initT_8, resV, oneV, binA, unA, reduceCtorEq, Nat.reduceEqDiff, Nat.reduceAdd, Nat.reduceLT, Nat.reduceLeDiff, Nat.reduceMul, Nat.reduceSub, ↓reduceIte, decide_true, decide_false, Bool.true_eq_false, Bool.false_eq_true, Bool.not_true, Bool.not_false, if_true, if_false, and_true, true_and, memE, celE, w64, Nat.zero_add, Nat.add_zero, Nat.mul_one, putL, and_self, ldn, q0]
      refine loop_inv mixed (fun s => ∃ (N : Mem) (r : Nat) (L : List Int), L.length ≤ 21 ∧ s.m = N ∧ Dr M N cb id b1 r l L ∧ s.t 3 = .slice (some ⟨r, 0, none⟩) L.length 1) (fun s => 21 - (match lenA (s.t 3) with | some (.int _ n) => n.toNat | _ => 0))
        ⟨_, r, L, by omega, rfl, d, by simp only [put_t, put_t', put_m, putT_t, putT_t', putT_m, init_t, init_m, initT_0, initT_1, initT_2, initT_3, initT_4, initT_5, initT_6, initT_7, initT_8, Nat.reduceEqDiff, ↓reduceIte, t3]⟩ ?_
      clear d tm t0 t3 t4
      rintro s ⟨N, r, L, hL, tm, d, t3⟩
      by_cases hl : L.length < 21
      · have hl' : (L.length : Int) < 21 := by omega
        obtain ⟨N2, ap, d2⟩ := d.app 1 (by omega) rfl
        simp (config := {implicitDefEqProofs := false, maxDischargeDepth := 20}) (disch := first | omega | (simp only [lenE]; done) | (simp only [lenE]; omega) | rfl | (simp only [lenE, markR_len]; done) | (simp only [lenE, markR_len]; omega)) only [runE, mapE, listE, initT_5, initT_6, initT_7, initT_8, resV, oneV, binA, unA, reduceCtorEq, Nat.reduceEqDiff, Nat.reduceAdd, Nat.reduceLT, Nat.reduceLeDiff, Nat.reduceMul, Nat.reduceSub, ↓reduceIte, decide_true, decide_false, Bool.true_eq_false, Bool.false_eq_true, Bool.not_true, Bool.not_false, if_true, if_false, and_true, true_and, memE, celE, w64, Nat.zero_add, Nat.add_zero, Nat.mul_one, putL, and_self, ldn, tm, t3, lenA, hl', bsl_one, ap]
        refine ⟨⟨_, _, L ++ [1], by simp; omega, rfl, d2, by simp⟩, ?_⟩
        simp [lenA]; omega
      · have hl' : ¬ ((L.length : Int) < 21) := by omega
        simp (config := {implicitDefEqProofs := false, maxDischargeDepth := 20}) (disch := first | omega | (simp only [lenE]; done) | (simp only [lenE]; omega) | rfl | (simp only [lenE, markR_len]; done) | (simp only [lenE, markR_len]; omega)) only [runE, mapE, listE, initT_5, initT_6, initT_7, initT_8, resV, oneV, binA, unA, reduceCtorEq, Nat.reduceEqDiff, Nat.reduceAdd, Nat.reduceLT, Nat.reduceLeDiff, Nat.reduceMul, Nat.reduceSub, ↓reduceIte, decide_true, decide_false, Bool.true_eq_false, Bool.false_eq_true, Bool.not_true, Bool.not_false, if_true, if_false, and_true, true_and, memE, celE, w64, Nat.zero_add, Nat.add_zero, Nat.mul_one, putL, and_self, ldn, tm, t3, lenA, hl']
        exact ⟨L, r, b1, rfl, hL, by omega, d⟩
    · have q0 : (p == 0) = false := by simp [p0]
      by_cases p1 : p = 1
      · have q1 : (p == 1) = true := by simp [p1]
        by_cases hl : 0 < L.length
        · have hl' : (0 : Int) < (L.length : Int) := by omega
          simp (config := {implicitDefEqProofs := false, maxDischargeDepth := 20}) (disch := first | omega | (simp only [lenE]; done) | (simp only [lenE]; omega) | rfl | (simp only [lenE, markR_len]; done) | (simp only [lenE, markR_len]; omega)) only [runE, mapE, listE, initT_5, initT_6, initT_7, initT_8, resV, oneV, binA, unA, reduceCtorEq, Nat.reduceEqDiff, Nat.reduceAdd, Nat.reduceLT, Nat.reduceLeDiff, Nat.reduceMul, Nat.reduceSub, ↓reduceIte, decide_true, decide_false, Bool.true_eq_false, Bool.false_eq_true, Bool.not_true, Bool.not_false, if_true, if_false, and_true, true_and, memE, celE, w64, Nat.zero_add, Nat.add_zero, Nat.mul_one, putL, and_self, ldn, q0, q1, t0, t3, lenA, gt_iff_lt, hl', bl_c2]
          refine callH_ac (among_new N1 cb id b1 l [-1, 20, 21] d.cur (by omega) rfl rfl (by simp) (by simp)) ?_
          rintro v N2 ⟨x, -, rfl, w, b2, hb2, kk⟩
          have d := d.draw w kk
          clear w kk
          obtain ⟨s1, d2⟩ := d.st hl x
          have i0 := iad0 (id := r) (n := L.length) (fl := 1) (z := 0) rfl hl
          simp (config := {implicitDefEqProofs := false, maxDischargeDepth := 20}) (disch := first | omega | (simp only [lenE]; done) | (simp only [lenE]; omega) | rfl | (simp only [lenE, markR_len]; done) | (simp only [lenE, markR_len]; omega)) only [runE, mapE, listE, initT_5, initT_6, initT_7, initT_8, resV, oneV, binA, unA, reduceCtorEq, Nat.reduceEqDiff, Nat.reduceAdd, Nat.reduceLT, Nat.reduceLeDiff, Nat.reduceMul, Nat.reduceSub, ↓reduceIte, decide_true, decide_false, Bool.true_eq_false, Bool.false_eq_true, Bool.not_true, Bool.not_false, if_true, if_false, and_true, true_and, memE, celE, w64, Nat.zero_add, Nat.add_zero, Nat.mul_one, putL, and_self, ldn, t3, i0, s1]
          exact ⟨L.set 0 x, r, b2, by simp, by simp; omega, by omega, d2⟩
        · have hl' : ¬ ((0 : Int) < (L.length : Int)) := by omega
          simp (config := {implicitDefEqProofs := false, maxDischargeDepth := 20}) (disch := first | omega | (simp only [lenE]; done) | (simp only [lenE]; omega) | rfl | (simp only [lenE, markR_len]; done) | (simp only [lenE, markR_len]; omega)) only [runE, mapE, listE, initT_5, initT_6, initT_7, initT_8, resV, oneV, binA, unA, reduceCtorEq, Nat.reduceEqDiff, Nat.reduceAdd, Nat.reduceLT, Nat.reduceLeDiff, Nat.reduceMul, Nat.reduceSub, ↓reduceIte, decide_true, decide_false, Bool.true_eq_false, Bool.false_eq_true, Bool.not_true, Bool.not_false, if_true, if_false, and_true, true_and, memE, celE, w64, Nat.zero_add, Nat.add_zero, Nat.mul_one, putL, and_self, ldn, q0, q1, t3, lenA, gt_iff_lt, hl']
          exact ⟨L, r, b1, rfl, by omega, by omega, d⟩
      · have q1 : (p == 1) = false := by simp [p1]
        simp (config := {implicitDefEqProofs := false, maxDischargeDepth := 20}) (disch := first | omega | (simp only [lenE]; done) | (simp only [lenE]; omega) | rfl | (simp only [lenE, markR_len]; done) | (simp only [lenE, markR_len]; omega)) only [runE, mapE, listE, initT_5, initT_6, initT_7, initT_8, resV, oneV, binA, unA, reduceCtorEq, Nat.reduceEqDiff, Nat.reduceAdd, Nat.reduceLT, Nat.reduceLeDiff, Nat.reduceMul, Nat.reduceSub, ↓reduceIte, decide_true, decide_false, Bool.true_eq_false, Bool.false_eq_true, Bool.not_true, Bool.not_false, if_true, if_false, and_true, true_and, memE, celE, w64, Nat.zero_add, Nat.add_zero, Nat.mul_one, putL, and_self, ldn, q0, q1, t3]
        exact ⟨L, r, b1, rfl, by omega, by omega, d⟩
end Go.Proofs.Ytjdallbnbjnghaa.Ab
end
section
namespace Go.Proofs.Ytjdallbnbjnghaa.Ab
open Go Go.RowKit
set_option linter.unusedVariables false
theorem IntsA.one {m : Mem} {v : Value} {l : List Int} (h : IntsA m v l) (xs : List Value) : onesB (v :: xs) = onesB xs := by
  rcases h.form with ⟨rfl, _⟩ | ⟨id, off, fl, rfl⟩ <;> exact onesB_sl _ _ _ _
end Go.Proofs.Ytjdallbnbjnghaa.Ab
end
section
namespace Go.Proofs.Ytjdallbnbjnghaa.Ab
open Go Go.RowKit
set_option linter.unusedVariables false
set_option linter.unusedSimpArgs false
def Adds (W : World) (ρ ρ' : Places) (m m' : Mem) : Prop := ρ <+: ρ' ∧ MRel W W.heap.size ρ' m' W ∧ ∃ new, m' = m ++ new
theorem Adds.trans {W : World} {ρ1 ρ2 ρ3 : Places} {m1 m2 m3 : Mem} (h : Adds W ρ1 ρ2 m1 m2) (h' : Adds W ρ2 ρ3 m2 m3) : Adds W ρ1 ρ3 m1 m3 := by
  obtain ⟨a, b, n1, rfl⟩ := h
  obtain ⟨c, d, n2, rfl⟩ := h'
  exact ⟨a.trans c, d, n1 ++ n2, by rw [List.append_assoc]⟩
theorem Adds.refl {W : World} {ρ : Places} {m : Mem} (h : MRel W W.heap.size ρ m W) : Adds W ρ ρ m m := ⟨List.prefix_refl _, h, [], by simp⟩
end Go.Proofs.Ytjdallbnbjnghaa.Ab
end
section
namespace Go.Proofs.Ytjdallbnbjnghaa
set_option linter.unusedVariables false
structure Fl where
  stock : Int
  under : List Int
structure Rl where
  kind : Int
  low : Int
  high : Int
structure Pc where
  day : Int
  amount : Int
  lead : Int
def nearB (m x : Int) : Bool := decide (-m ≤ x) && decide (x ≤ m)
theorem nearB_iff {m x : Int} : nearB m x = true ↔ -m ≤ x ∧ x ≤ m := by simp [nearB]
def inF (b x : Int) : Bool := decide (0 ≤ x) && decide (x ≤ b)
theorem inF_iff {b x : Int} : inF b x = true ↔ 0 ≤ x ∧ x ≤ b := by simp [inF]
def numsB (l : List Int) (most : Nat) (top : Int) : Bool := decide (l.length ≤ most) && rowB l l.length top
theorem numsB_iff {l : List Int} {most : Nat} {top : Int} : numsB l most top = true ↔ l.length ≤ most ∧ ∀ x ∈ l, 0 ≤ x ∧ x ≤ top := by
  simp only [numsB, Bool.and_eq_true, decide_eq_true_eq, rowB_iff, and_true]
theorem numsB_all (l : List Int) (most : Nat) (top : Int) : numsB l most top = (decide (l.length ≤ most) && l.all (inF top)) := by
  simp only [numsB, rowB, decide_true, Bool.and_true]
  rfl
def Fl.good (f : Fl) : Bool := nearB 200 f.stock && numsB f.under 4 40
structure GoodF (f : Fl) : Prop where
  st : -200 ≤ f.stock ∧ f.stock ≤ 200
  l4 : f.under.length ≤ 4
  un : ∀ x ∈ f.under, 0 ≤ x ∧ x ≤ 40
theorem GoodF.sum {f : Fl} (h : GoodF f) (k : Nat) (hk : k ≤ f.under.length) : 0 ≤ sumTo f.under k ∧ sumTo f.under k ≤ 160 := by
  have := sumTo_bound (by decide) h.un k
  have := h.l4
  omega
def Rl.good (r : Rl) : Bool := nearB 200 r.low && nearB 200 r.high &&
  (if r.kind = 1 then true else if r.kind = 2 then decide (r.low ≤ r.high) else if r.kind = 3 then decide (1 ≤ r.high) && decide (r.high ≤ 40) else false)
structure GoodR (r : Rl) : Prop where
  low : -200 ≤ r.low ∧ r.low ≤ 200
  high : -200 ≤ r.high ∧ r.high ≤ 200
  kind : r.kind = 1 ∨ (r.kind = 2 ∧ r.low ≤ r.high) ∨ (r.kind = 3 ∧ 1 ≤ r.high ∧ r.high ≤ 40)
def Pc.good (p : Pc) : Bool := (decide (1 ≤ p.day) && decide (p.day ≤ 20)) && (decide (1 ≤ p.amount) && decide (p.amount ≤ 40)) && inF 4 p.lead
structure GoodP11 (p : Pc) : Prop where
  day : 1 ≤ p.day ∧ p.day ≤ 20
  amount : 1 ≤ p.amount ∧ p.amount ≤ 40
  lead : 0 ≤ p.lead ∧ p.lead ≤ 4
theorem goodPc_iff {p : Pc} : p.good = true ↔ GoodP11 p := by
  simp only [Pc.good, Bool.and_eq_true, decide_eq_true_eq, inF_iff]
  exact ⟨fun h => ⟨h.1.1, h.1.2, h.2⟩, fun h => ⟨⟨h.day, h.amount⟩, h.lead⟩⟩
end Go.Proofs.Ytjdallbnbjnghaa
end
section
namespace Go.Proofs.Ytjdallbnbjnghaa
open Go.RowKit Go.ChangeShapes Go.WideShapes Go.ChangeAt
open Go.WideMaps Go.WideElems
set_option linter.unusedVariables false
def Pc0 : Pc := ⟨0, 0, 0⟩
def pcC (x : Pc) : List Value := [.int .i64 x.day, .int .i64 x.amount, .int .i64 x.lead]
def pcsC (L : List Pc) : List Value := (L.map pcC).flatten
theorem pcsC_len (L : List Pc) : (pcsC L).length = L.length * 3 := by
  induction L with
  | nil => rfl
  | cons p L ih => simp only [pcsC, List.map_cons, List.flatten_cons, List.length_append, List.length_cons] at ih ⊢; rw [ih]; simp [pcC]; omega
theorem pcsC_at : ∀ (L : List Pc) (k i : Nat), k < L.length → i < 3 → (pcsC L)[k * 3 + i]? = (pcC (L.getD k Pc0))[i]?
  | p :: L, 0, i, _, hi => by
    simp only [pcsC, List.map_cons, List.flatten_cons, Nat.zero_mul, Nat.zero_add, List.getD_cons_zero]
    rw [List.getElem?_append_left (by simp [pcC]; omega)]
  | p :: L, k + 1, i, h, hi => by
    have ih := pcsC_at L k i (by simpa using h) hi
    simp only [pcsC, List.map_cons, List.flatten_cons, List.getD_cons_succ] at ih ⊢
    rw [List.getElem?_append_right (by simp [pcC]; omega), ← ih]
    congr 1
    simp [pcC]; omega
  | [], k, i, h, _ => absurd h (by simp)
theorem pcsC_ext {L : List Pc} {cs : List Value} (hl : cs.length = L.length * 3) (h : ∀ k i, k < L.length → i < 3 → cs[k * 3 + i]? = (pcC (L.getD k Pc0))[i]?) : cs = pcsC L := by
  apply List.ext_getElem?
  intro i
  by_cases hi : i < L.length * 3
  · have p := pcsC_at L (i / 3) (i % 3) (by omega) (by omega)
    have q := h (i / 3) (i % 3) (by omega) (by omega)
    have ei : i / 3 * 3 + i % 3 = i := by omega
    rw [ei] at p q
    rw [p, q]
  · rw [List.getElem?_eq_none (by omega), List.getElem?_eq_none (by rw [pcsC_len]; omega)]
end Go.Proofs.Ytjdallbnbjnghaa
end
section
namespace Go.Proofs.Ytjdallbnbjnghaa.Ab
open Go Go.RowKit
set_option linter.unusedVariables false
set_option linter.unusedSimpArgs false
def IntsP (l : List Int) (lo hi : Nat) (M : Mem) (v : Value) : Prop :=
  l.length ≤ 1048576 ∧ ((v = .slice none 0 0 ∧ l = []) ∨ ∃ (id : Nat) (pre : List Int) (fl : Nat), v = .slice (some ⟨id, pre.length, none⟩) l.length fl ∧ lo ≤ id ∧ id < hi ∧ OwnR M id (pre ++ l))
theorem OwnR.intsP {M : Mem} {id : Nat} {pre l : List Int} (h : OwnR M id (pre ++ l)) (hb : l.length ≤ 9223372036854775807) (fl : Nat) : IntsA M (.slice (some ⟨id, pre.length, none⟩) l.length fl) l := by
  refine IntsA.of_block hb (fun k hk => ?_) ?_
  · rw [h.rd' (by rw [List.length_append]; omega), List.getD_eq_getElem?_getD, List.getElem?_append_right (by omega), Nat.add_sub_cancel_left, ← List.getD_eq_getElem?_getD]
  · unfold rdl
    rw [show M[id]? = some (rowB (pre ++ l)) from h]
    simp [List.map_append, List.take_of_length_le]
theorem IntsP.in {l : List Int} {lo hi : Nat} {M : Mem} {v : Value} (h : IntsP l lo hi M v) : IntsA M v l := by
  obtain ⟨hl, ⟨rfl, rfl⟩ | ⟨id, pre, fl, rfl, _, _, ho⟩⟩ := h
  · exact IntsA.nil M
  · exact ho.intsP (by omega) fl
theorem IntsP.at_ {l : List Int} {lo hi : Nat} {M M' : Mem} {v : Value} (h : IntsP l lo hi M v) (hs : ∀ i, lo ≤ i → i < hi → M'[i]? = M[i]?) : IntsP l lo hi M' v := by
  obtain ⟨hl, h | ⟨id, pre, fl, b, c, d, e⟩⟩ := h
  · exact ⟨hl, .inl h⟩
  · exact ⟨hl, .inr ⟨id, pre, fl, b, c, d, e.at_ (hs id c d)⟩⟩
theorem IntsP.nil (lo hi : Nat) (M : Mem) : IntsP [] lo hi M (.slice none 0 0) := ⟨by simp, .inl ⟨rfl, rfl⟩⟩
theorem IntsO.p {l : List Int} {lo hi : Nat} {M : Mem} {v : Value} (h : IntsO l lo hi M v) : IntsP l lo hi M v := by
  obtain ⟨hl, id, fl, rfl, a, b, ho⟩ := h
  exact ⟨hl, .inr ⟨id, [], fl, rfl, a, b, ho⟩⟩
abbrev flV (s : Fl) (a : Value) : Value := .agg #[.int .i64 s.stock, a]
def FlA (m : Mem) (v : Value) (s : Fl) : Prop := ∃ a, v = flV s a ∧ IntsA m a s.under
theorem FlA.ext {m : Mem} {v : Value} {s : Fl} (h : FlA m v s) (new : Mem) : FlA (m ++ new) v s := by
  obtain ⟨a, rfl, h1⟩ := h
  exact ⟨a, rfl, h1.ext new⟩
theorem FlA.ro {m : Mem} {v : Value} {s : Fl} (h : FlA m v s) : FlA (roM m) v s := by
  obtain ⟨a, rfl, h1⟩ := h
  exact ⟨a, rfl, h1.ro⟩
def FlO (s : Fl) (lo hi : Nat) (M : Mem) (v : Value) : Prop := ∃ a, v = flV s a ∧ IntsP s.under lo hi M a
theorem FlO.in {s : Fl} {lo hi : Nat} {M : Mem} {v : Value} (h : FlO s lo hi M v) : FlA M v s := by
  obtain ⟨a, rfl, h1⟩ := h
  exact ⟨a, rfl, h1.in⟩
theorem FlA.one {m : Mem} {s : Fl} {u : Value} (h : FlA m (flV s u) s) (xs : List Value) : onesB (u :: xs) = onesB xs := by
  obtain ⟨u', e, hu⟩ := h
  have e' : u = u' := by simpa [flV] using e
  rw [e']; exact hu.one xs
theorem FlO.agg {s : Fl} {lo hi : Nat} {M : Mem} {v : Value} (h : FlO s lo hi M v) : ∃ a b, v = .agg #[a, b] ∧ ∀ xs, onesB (a :: b :: xs) = onesB xs := by
  obtain ⟨a, rfl, h1⟩ := h
  exact ⟨_, _, rfl, fun xs => by rw [onesB_int]; exact h1.in.one xs⟩
end Go.Proofs.Ytjdallbnbjnghaa.Ab
end
section
namespace Go.Proofs.Ytjdallbnbjnghaa.Ab
open Go Go.RowKit
set_option linter.unusedVariables false
set_option linter.unusedSimpArgs false
theorem stP_agg3p (m : Mem) (id off : Nat) (a b c : Value) : stP m 3 (.pointer (some ⟨id, off, none⟩)) (.agg #[a, b, c]) = stA m id off [a, b, c] := rfl
abbrev pcV (x : Pc) : Value := .agg #[.int .i64 x.day, .int .i64 x.amount, .int .i64 x.lead]
def PcsA (m : Mem) (v : Value) (L : List Pc) : Prop :=
  L.length ≤ 9223372036854775807 ∧ ∃ id fl, v = .slice (some ⟨id, 0, none⟩) L.length fl ∧ ∀ k i, k < L.length → i < 3 → rdc m id (k * 3 + i) = (pcC (L.getD k Pc0))[i]?
theorem pcC_some (x : Pc) {i : Nat} (h : i < 3) : ∃ v, (pcC x)[i]? = some v := ⟨_, List.getElem?_eq_getElem (by simp [pcC]; omega)⟩
theorem PcsA.ext {m : Mem} {v : Value} {L : List Pc} (h : PcsA m v L) (new : Mem) : PcsA (m ++ new) v L := by
  obtain ⟨hb, id, fl, rfl, hc⟩ := h
  refine ⟨hb, id, fl, rfl, fun k i hk hi => ?_⟩
  obtain ⟨u, hu⟩ := pcC_some (L.getD k Pc0) hi
  have := hc k i hk hi
  rw [hu] at this ⊢
  exact rdc_ext this
theorem PcsA.ro {m : Mem} {v : Value} {L : List Pc} (h : PcsA m v L) : PcsA (roM m) v L := by
  obtain ⟨hb, id, fl, rfl, hc⟩ := h
  exact ⟨hb, id, fl, rfl, fun k i hk hi => by rw [rdc_roM]; exact hc k i hk hi⟩
theorem PcsA.len {m : Mem} {v : Value} {L : List Pc} (h : PcsA m v L) : lenA v = some (.int .i64 L.length) := by
  obtain ⟨hb, id, fl, rfl, hc⟩ := h; rfl
def pPc (v : Value) (k : Nat) : Value := match v with
  | .slice (some ⟨id, _, _⟩) _ _ => .pointer (some ⟨id, k * 3, none⟩)
  | _ => undef
theorem PcsA.at_ {m : Mem} {v : Value} {L : List Pc} (h : PcsA m v L) {k : Nat} (hk : k < L.length) : iadA 3 v (.int .i64 (k : Int)) = some (pPc v k) := by
  obtain ⟨hb, id, fl, rfl, hc⟩ := h
  simp only [pPc]
  rw [iadA_in hk]
  simp
theorem PcsA.ld {m : Mem} {v : Value} {L : List Pc} (h : PcsA m v L) {k : Nat} (hk : k < L.length) : ldA m (some 3) (pPc v k) = some (pcV (L.getD k Pc0)) := by
  obtain ⟨hb, id, fl, rfl, hc⟩ := h
  have r0 := hc k 0 hk (by decide)
  have r1 := hc k 1 hk (by decide)
  have r2 := hc k 2 hk (by decide)
  simp only [pcC, List.getElem?_cons_zero, List.getElem?_cons_succ, Nat.add_zero] at r0 r1 r2
  simp only [pPc, ldA, rdn, r0, r1, r2, pcV]
theorem PcsA.fld {m : Mem} {v : Value} {L : List Pc} (h : PcsA m v L) {k : Nat} (hk : k < L.length) (i : Nat) (hi : i < 3) : ∃ p, fadA i (pPc v k) = some p ∧ ldA m none p = (pcC (L.getD k Pc0))[i]? := by
  obtain ⟨hb, id, fl, rfl, hc⟩ := h
  exact ⟨_, rfl, by simpa [ldA] using hc k i hk hi⟩
def PcsO (e : TypeId) (L : List Pc) (lo hi : Nat) (M : Mem) (v : Value) : Prop :=
  L.length ≤ 1048576 ∧ ∃ id fl, v = .slice (some ⟨id, 0, none⟩) L.length fl ∧ lo ≤ id ∧ id < hi ∧ OwnB M id e (pcsC L)
theorem PcsO.in {e : TypeId} {L : List Pc} {lo hi : Nat} {M : Mem} {v : Value} (h : PcsO e L lo hi M v) : PcsA M v L := by
  obtain ⟨hl, id, fl, rfl, _, _, ho⟩ := h
  exact ⟨by omega, id, fl, rfl, fun k i hk hi => by rw [ho.rd]; exact pcsC_at L k i hk hi⟩
end Go.Proofs.Ytjdallbnbjnghaa.Ab
end
section
namespace Go.Proofs.Ytjdallbnbjnghaa.Ab
open Go Go.RowKit
set_option linter.unusedVariables false
set_option linter.unusedSimpArgs false
def Keeps (m M : Mem) : Prop := (∀ id k v, rdc m id k = some v → rdc M id k = some v) ∧ ∀ id off k xs, rdl m id off k = some xs → rdl M id off k = some xs
theorem Keeps.refl (m : Mem) : Keeps m m := ⟨fun _ _ _ h => h, fun _ _ _ _ h => h⟩
theorem Keeps.trans {a b c : Mem} (h : Keeps a b) (h' : Keeps b c) : Keeps a c := ⟨fun _ _ _ x => h'.1 _ _ _ (h.1 _ _ _ x), fun _ _ _ _ x => h'.2 _ _ _ _ (h.2 _ _ _ _ x)⟩
theorem Keeps.app (m new : Mem) : Keeps m (m ++ new) := ⟨fun _ _ _ h => rdc_ext h, fun _ _ _ _ h => rdl_ext h⟩
theorem Keeps.ro (m : Mem) : Keeps m (roM m) := ⟨fun _ _ _ h => by rw [rdc_roM]; exact h, fun _ _ _ _ h => by rw [rdl_roM]; exact h⟩
theorem Ext.keeps {m M : Mem} (h : Ext m M) : Keeps m M := by
  obtain ⟨new, rfl, _⟩ := h
  exact (Keeps.ro m).trans (Keeps.app _ _)
theorem Keeps.rdn {m M : Mem} (h : Keeps m M) {id : Nat} : ∀ (n off : Nat) (xs : List Value), rdn m id off n = some xs → rdn M id off n = some xs
  | 0, off, xs, hx => hx
  | n + 1, off, xs, hx => by
    simp only [Ab.rdn] at hx ⊢
    split at hx
    · rename_i x ys h1 h2
      rw [h.1 _ _ _ h1, h.rdn n _ _ h2]; exact hx
    · cases hx
theorem Keeps.ldA {m M : Mem} (h : Keeps m M) {n : Option Nat} {p v : Value} (hv : ldA m n p = some v) : ldA M n p = some v := by
  unfold Ab.ldA at hv ⊢
  split at hv
  · split at hv
    · exact h.1 _ _ _ hv
    · split at hv
      · rename_i xs hx
        rw [h.rdn _ _ _ hx]; exact hv
      · cases hv
  · cases hv
theorem Keeps.ints {m M : Mem} (h : Keeps m M) {v : Value} {l : List Int} (hi : IntsA m v l) : IntsA M v l :=
  ⟨hi.len, hi.bd, hi.at_, fun k hk => h.ldA (hi.ld k hk), by
    have := hi.src
    unfold slR at this ⊢
    split at this
    · exact this
    · exact h.2 _ _ _ _ this
    · cases this⟩
theorem Keeps.pcs {m M : Mem} (h : Keeps m M) {v : Value} {L : List Pc} (hi : PcsA m v L) : PcsA M v L := by
  obtain ⟨hb, id, fl, rfl, hc⟩ := hi
  refine ⟨hb, id, fl, rfl, fun k i hk hi => ?_⟩
  obtain ⟨u, hu⟩ := pcC_some (L.getD k Pc0) hi
  have := hc k i hk hi
  rw [hu] at this ⊢
  exact h.1 _ _ _ this
theorem Keeps.fl {m M : Mem} (h : Keeps m M) {v : Value} {s : Fl} (hi : FlA m v s) : FlA M v s := by
  obtain ⟨a, rfl, h1⟩ := hi
  exact ⟨a, rfl, h.ints h1⟩
structure ElA (m : Mem) (sz : Nat) (n : Option Nat) (v : Value) (xs : List Value) : Prop where
  len : lenA v = some (.int .i64 xs.length)
  bd : xs.length ≤ 9223372036854775807
  at_ : ∀ k, k < xs.length → ∃ p, iadA sz v (.int .i64 (k : Int)) = some p ∧ ldA m n p = some (xs.getD k undef)
theorem ElA.keeps {m M : Mem} {sz : Nat} {n : Option Nat} {v : Value} {xs : List Value} (h : ElA m sz n v xs) (hk : Keeps m M) : ElA M sz n v xs :=
  ⟨h.len, h.bd, fun k hk2 => by obtain ⟨p, h1, h2⟩ := h.at_ k hk2; exact ⟨p, h1, hk.ldA h2⟩⟩
theorem IntsA.el {m : Mem} {v : Value} {l : List Int} (h : IntsA m v l) : ElA m 1 none v (l.map (Value.int .i64)) := by
  refine ⟨by rw [List.length_map]; exact h.len, by rw [List.length_map]; exact h.bd, fun k hk => ?_⟩
  rw [List.length_map] at hk
  refine ⟨_, h.at_ k hk, ?_⟩
  rw [h.ld k hk]; simp [List.getD_eq_getElem?_getD, List.getElem?_map, hk]
theorem PcsA.el {m : Mem} {v : Value} {L : List Pc} (h : PcsA m v L) : ElA m 3 (some 3) v (L.map pcV) := by
  refine ⟨by rw [List.length_map]; exact h.len, by rw [List.length_map]; exact h.1, fun k hk => ?_⟩
  rw [List.length_map] at hk
  refine ⟨_, h.at_ hk, ?_⟩
  rw [h.ld hk]; simp [List.getD_eq_getElem?_getD, List.getElem?_map, hk]
def FunQ {α : Type} (m : Mem) (fv : Value) (enc : α → List Value) (D : α → Prop) (Q : α → Mem → Value → Mem → Prop) : Prop :=
  ∃ g cap, fv = .func (.func g) #[] cap ∧ ∀ M, Keeps m M → ∀ x, D x → RC Try.prog g (enc x ++ cap.toList) M (Q x M)
abbrev FunG {α : Type} (m : Mem) (fv : Value) (enc : α → List Value) (D : α → Prop) (out : α → Value) : Prop := FunQ m fv enc D (fun x _ => AnsV (out x))
theorem FunQ.keeps {α : Type} {m M : Mem} {fv : Value} {enc : α → List Value} {D : α → Prop} {Q : α → Mem → Value → Mem → Prop} (h : FunQ m fv enc D Q) (hk : Keeps m M) : FunQ M fv enc D Q := by
  obtain ⟨g, cap, h1, h2⟩ := h
  exact ⟨g, cap, h1, fun M' hM x hx => h2 M' (hk.trans hM) x hx⟩
theorem ansV_of {x r : Value} {new : Mem} (h : r = x ∧ new = []) : AnsV x r new := ⟨h.1, by rw [h.2]; exact noRo_nil⟩
theorem any_step {xs : List Value} {p : Value → Bool} {k : Nat} (h : k < xs.length) : (xs.drop k).any p = (p (xs.getD k undef) || (xs.drop (k + 1)).any p) := by
  rw [List.drop_eq_getElem_cons h, List.any_cons, List.getD_eq_getElem?_getD, List.getElem?_eq_getElem h]; rfl
theorem mem_getD {xs : List Value} {k : Nat} (h : k < xs.length) : xs.getD k undef ∈ xs := by
  rw [List.getD_eq_getElem?_getD, List.getElem?_eq_getElem h]; exact List.getElem_mem h
theorem take_map_s {xs : List Value} {f : Value → Int} {k : Nat} (h : k < xs.length) : (xs.take (k + 1)).map f = (xs.take k).map f ++ [f (xs.getD k undef)] := by
  rw [List.take_succ_eq_append_getElem h, List.map_append, List.getD_eq_getElem?_getD, List.getElem?_eq_getElem h]; rfl
theorem indexI_rc (m : Mem) (v fv : Value) (xs : List Value) (p : Value → Bool) (h : ElA m 1 none v xs) (hf : FunG m fv (fun x : Value => [x]) (· ∈ xs) (fun x => .bool (p x))) :
    RC Try.prog 126 [v, fv] m fun r new => (∃ i : Int, r = .int .i64 i ∧ decide (0 ≤ i) = xs.any p ∧ -1 ≤ i ∧ i ≤ xs.length) ∧ NoRo new := by
  refine rc_of_run mixed ok_slices_IndexFunc (by simp) (go_start _ _ _ ?_)
  obtain ⟨g, cap, rfl, hg⟩ := hf
  have hbd := h.bd
  simp (config := {implicitDefEqProofs := false, maxDischargeDepth := 20}) (disch := first | omega | (simp only [lenE]; done) | (simp only [lenE]; omega) | rfl | (simp only [lenE, markR_len]; done) | (simp only [lenE, markR_len]; omega)) only [runE, mapE, listE, initT_5, initT_6, initT_7, initT_8, resV, oneV, binA, unA, reduceCtorEq, Nat.reduceEqDiff, Nat.reduceAdd, Nat.reduceLT, Nat.reduceLeDiff, Nat.reduceMul, Nat.reduceSub, ↓reduceIte, decide_true, decide_false, Bool.true_eq_false, Bool.false_eq_true, Bool.not_true, Bool.not_false, if_true, if_false, and_true, true_and, memE, celE, w64, Nat.zero_add, Nat.add_zero, Nat.mul_one, putL, and_self, ldn, c_slices_IndexFunc, r_slices_IndexFunc, h.len]
  refine loop_inv mixed (fun s => ∃ (k : Nat) (M : Mem), k ≤ xs.length ∧ s.m = M ∧ Ext m M ∧ s.t 0 = v ∧ s.t 1 = .func (.func g) #[] cap ∧ s.t 7 = .int .i64 xs.length ∧ s.t 8 = .int .i64 k ∧ xs.any p = (xs.drop k).any p) (fun s => xs.length - (intOf (s.t 8)).toNat) ⟨0, _, by omega, rfl, Ext.refl m, rfl, rfl, rfl, rfl, rfl⟩ ?_
  rintro s ⟨k, M, hk, tm, hx, t0, t1, t7, t8, hall⟩
  by_cases hlt : k < xs.length
  · have hlt' : (k : Int) < xs.length := by omega
    obtain ⟨q, e3, e4⟩ := (h.keeps hx.keeps).at_ k hlt
    simp (config := {implicitDefEqProofs := false, maxDischargeDepth := 20}) (disch := first | omega | (simp only [lenE]; done) | (simp only [lenE]; omega) | rfl | (simp only [lenE, markR_len]; done) | (simp only [lenE, markR_len]; omega)) only [runE, mapE, listE, initT_5, initT_6, initT_7, initT_8, resV, oneV, binA, unA, reduceCtorEq, Nat.reduceEqDiff, Nat.reduceAdd, Nat.reduceLT, Nat.reduceLeDiff, Nat.reduceMul, Nat.reduceSub, ↓reduceIte, decide_true, decide_false, Bool.true_eq_false, Bool.false_eq_true, Bool.not_true, Bool.not_false, if_true, if_false, and_true, true_and, memE, celE, w64, Nat.zero_add, Nat.add_zero, Nat.mul_one, putL, and_self, ldn, t0, t1, t7, t8, tm, e3, e4, hlt']
    refine callH_rc (hg M hx.keeps _ (mem_getD hlt)) ?_
    intro r new hA
    obtain ⟨hr, hn⟩ : r = .bool (p (xs.getD k undef)) ∧ NoRo new := hA
    subst hr
    rw [any_step hlt] at hall
    cases hb : p (xs.getD k undef) with
    | true =>
      simp (config := {implicitDefEqProofs := false, maxDischargeDepth := 20}) (disch := first | omega | (simp only [lenE]; done) | (simp only [lenE]; omega) | rfl | (simp only [lenE, markR_len]; done) | (simp only [lenE, markR_len]; omega)) only [runE, mapE, listE, initT_5, initT_6, initT_7, initT_8, resV, oneV, binA, unA, reduceCtorEq, Nat.reduceEqDiff, Nat.reduceAdd, Nat.reduceLT, Nat.reduceLeDiff, Nat.reduceMul, Nat.reduceSub, ↓reduceIte, decide_true, decide_false, Bool.true_eq_false, Bool.false_eq_true, Bool.not_true, Bool.not_false, if_true, if_false, and_true, true_and, memE, celE, w64, Nat.zero_add, Nat.add_zero, Nat.mul_one, putL, and_self, ldn, t0, t1, t7, t8, tm]
      obtain ⟨n0, he, h0⟩ := hx.app hn
      exact ⟨n0, he, h0, ⟨_, rfl, by rw [hall, hb, Bool.true_or]; exact decide_eq_true (by omega), by omega, by omega⟩, h0⟩
    | false =>
      simp (config := {implicitDefEqProofs := false, maxDischargeDepth := 20}) (disch := first | omega | (simp only [lenE]; done) | (simp only [lenE]; omega) | rfl | (simp only [lenE, markR_len]; done) | (simp only [lenE, markR_len]; omega)) only [runE, mapE, listE, initT_5, initT_6, initT_7, initT_8, resV, oneV, binA, unA, reduceCtorEq, Nat.reduceEqDiff, Nat.reduceAdd, Nat.reduceLT, Nat.reduceLeDiff, Nat.reduceMul, Nat.reduceSub, ↓reduceIte, decide_true, decide_false, Bool.true_eq_false, Bool.false_eq_true, Bool.not_true, Bool.not_false, if_true, if_false, and_true, true_and, memE, celE, w64, Nat.zero_add, Nat.add_zero, Nat.mul_one, putL, and_self, ldn, t0, t1, t7, t8, tm]
      rw [hb, Bool.false_or] at hall
      refine ⟨⟨k + 1, _, by omega, rfl, hx.app hn, by simp, hall⟩, ?_⟩
      simp [intOf]; omega
  · have hlt' : ¬ ((k : Int) < xs.length) := by omega
    simp (config := {implicitDefEqProofs := false, maxDischargeDepth := 20}) (disch := first | omega | (simp only [lenE]; done) | (simp only [lenE]; omega) | rfl | (simp only [lenE, markR_len]; done) | (simp only [lenE, markR_len]; omega)) only [runE, mapE, listE, initT_5, initT_6, initT_7, initT_8, resV, oneV, binA, unA, reduceCtorEq, Nat.reduceEqDiff, Nat.reduceAdd, Nat.reduceLT, Nat.reduceLeDiff, Nat.reduceMul, Nat.reduceSub, ↓reduceIte, decide_true, decide_false, Bool.true_eq_false, Bool.false_eq_true, Bool.not_true, Bool.not_false, if_true, if_false, and_true, true_and, memE, celE, w64, Nat.zero_add, Nat.add_zero, Nat.mul_one, putL, and_self, ldn, t0, t1, t7, t8, tm, hlt']
    obtain ⟨n0, he, h0⟩ := hx
    rw [List.drop_eq_nil_of_le (by omega)] at hall
    exact ⟨n0, he, h0, ⟨_, rfl, by rw [hall]; rfl, by omega, by omega⟩, h0⟩
theorem containsI_rc (m : Mem) (v fv : Value) (xs : List Value) (p : Value → Bool) (h : ElA m 1 none v xs) (hf : FunG m fv (fun x : Value => [x]) (· ∈ xs) (fun x => .bool (p x))) :
    RC Try.prog 114 [v, fv] m (AnsV (.bool (xs.any p))) := by
  refine rc_of_run mixed ok_slices_ContainsFunc (by simp) (go_start _ _ _ ?_)
  simp (config := {implicitDefEqProofs := false, maxDischargeDepth := 20}) (disch := first | omega | (simp only [lenE]; done) | (simp only [lenE]; omega) | rfl | (simp only [lenE, markR_len]; done) | (simp only [lenE, markR_len]; omega)) only [runE, mapE, listE, initT_5, initT_6, initT_7, initT_8, resV, oneV, binA, unA, reduceCtorEq, Nat.reduceEqDiff, Nat.reduceAdd, Nat.reduceLT, Nat.reduceLeDiff, Nat.reduceMul, Nat.reduceSub, ↓reduceIte, decide_true, decide_false, Bool.true_eq_false, Bool.false_eq_true, Bool.not_true, Bool.not_false, if_true, if_false, and_true, true_and, memE, celE, w64, Nat.zero_add, Nat.add_zero, Nat.mul_one, putL, and_self, ldn, c_slices_ContainsFunc, r_slices_ContainsFunc]
  refine callH_rc (indexI_rc _ v fv xs p (h.keeps (Keeps.ro m)) (hf.keeps (Keeps.ro m))) ?_
  rintro r new ⟨⟨i, rfl, hi, _, _⟩, hn⟩
  simp (config := {implicitDefEqProofs := false, maxDischargeDepth := 20}) (disch := first | omega | (simp only [lenE]; done) | (simp only [lenE]; omega) | rfl | (simp only [lenE, markR_len]; done) | (simp only [lenE, markR_len]; omega)) only [runE, mapE, listE, initT_5, initT_6, initT_7, initT_8, resV, oneV, binA, unA, reduceCtorEq, Nat.reduceEqDiff, Nat.reduceAdd, Nat.reduceLT, Nat.reduceLeDiff, Nat.reduceMul, Nat.reduceSub, ↓reduceIte, decide_true, decide_false, Bool.true_eq_false, Bool.false_eq_true, Bool.not_true, Bool.not_false, if_true, if_false, and_true, true_and, memE, celE, w64, Nat.zero_add, Nat.add_zero, Nat.mul_one, putL, and_self, ldn, ge_iff_le, hi]
  exact ext_ansV ((Ext.refl m).app hn) rfl
theorem areAtMostI_rc (m : Mem) (v fv : Value) (xs : List Value) (p : Value → Bool) (most : Int) (h : ElA m 1 none v xs) (hf : FunG m fv (fun x : Value => [x]) (· ∈ xs) (fun x => .bool (p x))) :
    RC Try.prog 76 [.int .i64 most, v, fv] m (AnsV (.bool (decide ((xs.length : Int) ≤ most) && xs.all p))) := by
  refine rc_of_run mixed ok_impl_areAtMost (by simp) (go_start _ _ _ ?_)
  obtain ⟨g, cap, rfl, hg⟩ := hf
  by_cases hl : (xs.length : Int) ≤ most
  · simp (config := {implicitDefEqProofs := false, maxDischargeDepth := 20}) (disch := first | omega | (simp only [lenE]; done) | (simp only [lenE]; omega) | rfl | (simp only [lenE, markR_len]; done) | (simp only [lenE, markR_len]; omega)) only [runE, mapE, listE, initT_5, initT_6, initT_7, initT_8, resV, oneV, binA, unA, reduceCtorEq, Nat.reduceEqDiff, Nat.reduceAdd, Nat.reduceLT, Nat.reduceLeDiff, Nat.reduceMul, Nat.reduceSub, ↓reduceIte, decide_true, decide_false, Bool.true_eq_false, Bool.false_eq_true, Bool.not_true, Bool.not_false, if_true, if_false, and_true, true_and, memE, celE, w64, Nat.zero_add, Nat.add_zero, Nat.mul_one, putL, and_self, ldn, c_impl_areAtMost, r_impl_areAtMost, h.len, hl]
    have hx : Ext m (roM m ++ [⟨.own, 94, [.func (.func g) #[] cap]⟩]) := (Ext.refl m).one _ _
    refine callH_rc (containsI_rc _ v _ xs (fun x => !p x) (h.keeps hx.keeps) ⟨_, _, rfl, fun M hM x hxm => ?_⟩) ?_
    · refine rc_of_run mixed ok_impl_areAtMost_1 (by simp) (go_start _ _ _ ?_)
      have hb : rdc (roM M) m.length 0 = some (.func (.func g) #[] cap) := by
        rw [rdc_roM]
        refine hM.1 _ _ _ ?_
        rw [rdc_box (by rw [roM_len])]; rfl
      simp (config := {implicitDefEqProofs := false, maxDischargeDepth := 20}) (disch := first | omega | (simp only [lenE]; done) | (simp only [lenE]; omega) | rfl | (simp only [lenE, markR_len]; done) | (simp only [lenE, markR_len]; omega)) only [runE, mapE, listE, initT_5, initT_6, initT_7, initT_8, resV, oneV, binA, unA, reduceCtorEq, Nat.reduceEqDiff, Nat.reduceAdd, Nat.reduceLT, Nat.reduceLeDiff, Nat.reduceMul, Nat.reduceSub, ↓reduceIte, decide_true, decide_false, Bool.true_eq_false, Bool.false_eq_true, Bool.not_true, Bool.not_false, if_true, if_false, and_true, true_and, memE, celE, w64, Nat.zero_add, Nat.add_zero, Nat.mul_one, putL, and_self, ldn, c_impl_areAtMost_1, r_impl_areAtMost_1, hb, fun new => rdc_ext (new := new) hb]
      refine callH_rc (hg _ ((hx.keeps.trans hM).trans (Keeps.ro M)) x hxm) ?_
      intro r new hA
      obtain ⟨hr, hn⟩ : r = .bool (p x) ∧ NoRo new := hA
      subst hr
      simp (config := {implicitDefEqProofs := false, maxDischargeDepth := 20}) (disch := first | omega | (simp only [lenE]; done) | (simp only [lenE]; omega) | rfl | (simp only [lenE, markR_len]; done) | (simp only [lenE, markR_len]; omega)) only [runE, mapE, listE, initT_5, initT_6, initT_7, initT_8, resV, oneV, binA, unA, reduceCtorEq, Nat.reduceEqDiff, Nat.reduceAdd, Nat.reduceLT, Nat.reduceLeDiff, Nat.reduceMul, Nat.reduceSub, ↓reduceIte, decide_true, decide_false, Bool.true_eq_false, Bool.false_eq_true, Bool.not_true, Bool.not_false, if_true, if_false, and_true, true_and, memE, celE, w64, Nat.zero_add, Nat.add_zero, Nat.mul_one, putL, and_self, ldn]
      exact ext_ansV ((Ext.refl M).app hn) rfl
    · rintro r new ⟨rfl, hn⟩
      simp (config := {implicitDefEqProofs := false, maxDischargeDepth := 20}) (disch := first | omega | (simp only [lenE]; done) | (simp only [lenE]; omega) | rfl | (simp only [lenE, markR_len]; done) | (simp only [lenE, markR_len]; omega)) only [runE, mapE, listE, initT_5, initT_6, initT_7, initT_8, resV, oneV, binA, unA, reduceCtorEq, Nat.reduceEqDiff, Nat.reduceAdd, Nat.reduceLT, Nat.reduceLeDiff, Nat.reduceMul, Nat.reduceSub, ↓reduceIte, decide_true, decide_false, Bool.true_eq_false, Bool.false_eq_true, Bool.not_true, Bool.not_false, if_true, if_false, and_true, true_and, memE, celE, w64, Nat.zero_add, Nat.add_zero, Nat.mul_one, putL, and_self, ldn]
      refine ext_ansV (hx.app hn) ?_
      rw [List.any_eq_not_all_not]
      simp
  · simp (config := {implicitDefEqProofs := false, maxDischargeDepth := 20}) (disch := first | omega | (simp only [lenE]; done) | (simp only [lenE]; omega) | rfl | (simp only [lenE, markR_len]; done) | (simp only [lenE, markR_len]; omega)) only [runE, mapE, listE, initT_5, initT_6, initT_7, initT_8, resV, oneV, binA, unA, reduceCtorEq, Nat.reduceEqDiff, Nat.reduceAdd, Nat.reduceLT, Nat.reduceLeDiff, Nat.reduceMul, Nat.reduceSub, ↓reduceIte, decide_true, decide_false, Bool.true_eq_false, Bool.false_eq_true, Bool.not_true, Bool.not_false, if_true, if_false, and_true, true_and, memE, celE, w64, Nat.zero_add, Nat.add_zero, Nat.mul_one, putL, and_self, ldn, c_impl_areAtMost, r_impl_areAtMost, h.len, hl]
    exact ext_ansV ((Ext.refl m).one _ _) (by simp)
theorem indexP_rc (m : Mem) (v fv : Value) (xs : List Value) (p : Value → Bool) (h : ElA m 3 (some 3) v xs) (hf : FunG m fv (fun x : Value => [x]) (· ∈ xs) (fun x => .bool (p x))) :
    RC Try.prog 121 [v, fv] m fun r new => (∃ i : Int, r = .int .i64 i ∧ decide (0 ≤ i) = xs.any p ∧ -1 ≤ i ∧ i ≤ xs.length) ∧ NoRo new := by
  refine rc_of_run mixed ok_slices_IndexFunc_Parcel (by simp) (go_start _ _ _ ?_)
  obtain ⟨g, cap, rfl, hg⟩ := hf
  have hbd := h.bd
  simp (config := {implicitDefEqProofs := false, maxDischargeDepth := 20}) (disch := first | omega | (simp only [lenE]; done) | (simp only [lenE]; omega) | rfl | (simp only [lenE, markR_len]; done) | (simp only [lenE, markR_len]; omega)) only [runE, mapE, listE, initT_5, initT_6, initT_7, initT_8, resV, oneV, binA, unA, reduceCtorEq, Nat.reduceEqDiff, Nat.reduceAdd, Nat.reduceLT, Nat.reduceLeDiff, Nat.reduceMul, Nat.reduceSub, ↓reduceIte, decide_true, decide_false, Bool.true_eq_false, Bool.false_eq_true, Bool.not_true, Bool.not_false, if_true, if_false, and_true, true_and, memE, celE, w64, Nat.zero_add, Nat.add_zero, Nat.mul_one, putL, and_self, ldn, c_slices_IndexFunc_Parcel, r_slices_IndexFunc_Parcel, h.len]
  refine loop_inv mixed (fun s => ∃ (k : Nat) (M : Mem), k ≤ xs.length ∧ s.m = M ∧ Ext m M ∧ s.t 0 = v ∧ s.t 1 = .func (.func g) #[] cap ∧ s.t 7 = .int .i64 xs.length ∧ s.t 8 = .int .i64 k ∧ xs.any p = (xs.drop k).any p) (fun s => xs.length - (intOf (s.t 8)).toNat) ⟨0, _, by omega, rfl, Ext.refl m, rfl, rfl, rfl, rfl, rfl⟩ ?_
  rintro s ⟨k, M, hk, tm, hx, t0, t1, t7, t8, hall⟩
  by_cases hlt : k < xs.length
  · have hlt' : (k : Int) < xs.length := by omega
    obtain ⟨q, e3, e4⟩ := (h.keeps hx.keeps).at_ k hlt
    simp (config := {implicitDefEqProofs := false, maxDischargeDepth := 20}) (disch := first | omega | (simp only [lenE]; done) | (simp only [lenE]; omega) | rfl | (simp only [lenE, markR_len]; done) | (simp only [lenE, markR_len]; omega)) only [runE, mapE, listE, initT_5, initT_6, initT_7, initT_8, resV, oneV, binA, unA, reduceCtorEq, Nat.reduceEqDiff, Nat.reduceAdd, Nat.reduceLT, Nat.reduceLeDiff, Nat.reduceMul, Nat.reduceSub, ↓reduceIte, decide_true, decide_false, Bool.true_eq_false, Bool.false_eq_true, Bool.not_true, Bool.not_false, if_true, if_false, and_true, true_and, memE, celE, w64, Nat.zero_add, Nat.add_zero, Nat.mul_one, putL, and_self, ldn, t0, t1, t7, t8, tm, e3, e4, hlt']
    refine callH_rc (hg M hx.keeps _ (mem_getD hlt)) ?_
    intro r new hA
    obtain ⟨hr, hn⟩ : r = .bool (p (xs.getD k undef)) ∧ NoRo new := hA
    subst hr
    rw [any_step hlt] at hall
    cases hb : p (xs.getD k undef) with
    | true =>
      simp (config := {implicitDefEqProofs := false, maxDischargeDepth := 20}) (disch := first | omega | (simp only [lenE]; done) | (simp only [lenE]; omega) | rfl | (simp only [lenE, markR_len]; done) | (simp only [lenE, markR_len]; omega)) only [runE, mapE, listE, initT_5, initT_6, initT_7, initT_8, resV, oneV, binA, unA, reduceCtorEq, Nat.reduceEqDiff, Nat.reduceAdd, Nat.reduceLT, Nat.reduceLeDiff, Nat.reduceMul, Nat.reduceSub, ↓reduceIte, decide_true, decide_false, Bool.true_eq_false, Bool.false_eq_true, Bool.not_true, Bool.not_false, if_true, if_false, and_true, true_and, memE, celE, w64, Nat.zero_add, Nat.add_zero, Nat.mul_one, putL, and_self, ldn, t0, t1, t7, t8, tm]
      obtain ⟨n0, he, h0⟩ := hx.app hn
      exact ⟨n0, he, h0, ⟨_, rfl, by rw [hall, hb, Bool.true_or]; exact decide_eq_true (by omega), by omega, by omega⟩, h0⟩
    | false =>
      simp (config := {implicitDefEqProofs := false, maxDischargeDepth := 20}) (disch := first | omega | (simp only [lenE]; done) | (simp only [lenE]; omega) | rfl | (simp only [lenE, markR_len]; done) | (simp only [lenE, markR_len]; omega)) only [runE, mapE, listE, initT_5, initT_6, initT_7, initT_8, resV, oneV, binA, unA, reduceCtorEq, Nat.reduceEqDiff, Nat.reduceAdd, Nat.reduceLT, Nat.reduceLeDiff, Nat.reduceMul, Nat.reduceSub, ↓reduceIte, decide_true, decide_false, Bool.true_eq_false, Bool.false_eq_true, Bool.not_true, Bool.not_false, if_true, if_false, and_true, true_and, memE, celE, w64, Nat.zero_add, Nat.add_zero, Nat.mul_one, putL, and_self, ldn, t0, t1, t7, t8, tm]
      rw [hb, Bool.false_or] at hall
      refine ⟨⟨k + 1, _, by omega, rfl, hx.app hn, by simp, hall⟩, ?_⟩
      simp [intOf]; omega
  · have hlt' : ¬ ((k : Int) < xs.length) := by omega
    simp (config := {implicitDefEqProofs := false, maxDischargeDepth := 20}) (disch := first | omega | (simp only [lenE]; done) | (simp only [lenE]; omega) | rfl | (simp only [lenE, markR_len]; done) | (simp only [lenE, markR_len]; omega)) only [runE, mapE, listE, initT_5, initT_6, initT_7, initT_8, resV, oneV, binA, unA, reduceCtorEq, Nat.reduceEqDiff, Nat.reduceAdd, Nat.reduceLT, Nat.reduceLeDiff, Nat.reduceMul, Nat.reduceSub, ↓reduceIte, decide_true, decide_false, Bool.true_eq_false, Bool.false_eq_true, Bool.not_true, Bool.not_false, if_true, if_false, and_true, true_and, memE, celE, w64, Nat.zero_add, Nat.add_zero, Nat.mul_one, putL, and_self, ldn, t0, t1, t7, t8, tm, hlt']
    obtain ⟨n0, he, h0⟩ := hx
    rw [List.drop_eq_nil_of_le (by omega)] at hall
    exact ⟨n0, he, h0, ⟨_, rfl, by rw [hall]; rfl, by omega, by omega⟩, h0⟩
theorem containsP_rc (m : Mem) (v fv : Value) (xs : List Value) (p : Value → Bool) (h : ElA m 3 (some 3) v xs) (hf : FunG m fv (fun x : Value => [x]) (· ∈ xs) (fun x => .bool (p x))) :
    RC Try.prog 97 [v, fv] m (AnsV (.bool (xs.any p))) := by
  refine rc_of_run mixed ok_slices_ContainsFunc_Parcel (by simp) (go_start _ _ _ ?_)
  simp (config := {implicitDefEqProofs := false, maxDischargeDepth := 20}) (disch := first | omega | (simp only [lenE]; done) | (simp only [lenE]; omega) | rfl | (simp only [lenE, markR_len]; done) | (simp only [lenE, markR_len]; omega)) only [runE, mapE, listE, initT_5, initT_6, initT_7, initT_8, resV, oneV, binA, unA, reduceCtorEq, Nat.reduceEqDiff, Nat.reduceAdd, Nat.reduceLT, Nat.reduceLeDiff, Nat.reduceMul, Nat.reduceSub, ↓reduceIte, decide_true, decide_false, Bool.true_eq_false, Bool.false_eq_true, Bool.not_true, Bool.not_false, if_true, if_false, and_true, true_and, memE, celE, w64, Nat.zero_add, Nat.add_zero, Nat.mul_one, putL, and_self, ldn, c_slices_ContainsFunc_Parcel, r_slices_ContainsFunc_Parcel]
  refine callH_rc (indexP_rc _ v fv xs p (h.keeps (Keeps.ro m)) (hf.keeps (Keeps.ro m))) ?_
  rintro r new ⟨⟨i, rfl, hi, _, _⟩, hn⟩
  simp (config := {implicitDefEqProofs := false, maxDischargeDepth := 20}) (disch := first | omega | (simp only [lenE]; done) | (simp only [lenE]; omega) | rfl | (simp only [lenE, markR_len]; done) | (simp only [lenE, markR_len]; omega)) only [runE, mapE, listE, initT_5, initT_6, initT_7, initT_8, resV, oneV, binA, unA, reduceCtorEq, Nat.reduceEqDiff, Nat.reduceAdd, Nat.reduceLT, Nat.reduceLeDiff, Nat.reduceMul, Nat.reduceSub, ↓reduceIte, decide_true, decide_false, Bool.true_eq_false, Bool.false_eq_true, Bool.not_true, Bool.not_false, if_true, if_false, and_true, true_and, memE, celE, w64, Nat.zero_add, Nat.add_zero, Nat.mul_one, putL, and_self, ldn, ge_iff_le, hi]
  exact ext_ansV ((Ext.refl m).app hn) rfl
theorem areAtMostP_rc (m : Mem) (v fv : Value) (xs : List Value) (p : Value → Bool) (most : Int) (h3 : ∀ x ∈ xs, ∃ a b c, x = .agg #[a, b, c] ∧ onesB [a, b, c] = true) (h : ElA m 3 (some 3) v xs) (hf : FunG m fv (fun x : Value => [x]) (· ∈ xs) (fun x => .bool (p x))) :
    RC Try.prog 117 [.int .i64 most, v, fv] m (AnsV (.bool (decide ((xs.length : Int) ≤ most) && xs.all p))) := by
  refine rc_of_run mixed ok_impl_areAtMost_Parcel (by simp) (go_start _ _ _ ?_)
  obtain ⟨g, cap, rfl, hg⟩ := hf
  by_cases hl : (xs.length : Int) ≤ most
  · simp (config := {implicitDefEqProofs := false, maxDischargeDepth := 20}) (disch := first | omega | (simp only [lenE]; done) | (simp only [lenE]; omega) | rfl | (simp only [lenE, markR_len]; done) | (simp only [lenE, markR_len]; omega)) only [runE, mapE, listE, initT_5, initT_6, initT_7, initT_8, resV, oneV, binA, unA, reduceCtorEq, Nat.reduceEqDiff, Nat.reduceAdd, Nat.reduceLT, Nat.reduceLeDiff, Nat.reduceMul, Nat.reduceSub, ↓reduceIte, decide_true, decide_false, Bool.true_eq_false, Bool.false_eq_true, Bool.not_true, Bool.not_false, if_true, if_false, and_true, true_and, memE, celE, w64, Nat.zero_add, Nat.add_zero, Nat.mul_one, putL, and_self, ldn, c_impl_areAtMost_Parcel, r_impl_areAtMost_Parcel, h.len, hl]
    have hx : Ext m (roM m ++ [⟨.own, 118, [.func (.func g) #[] cap]⟩]) := (Ext.refl m).one _ _
    refine callH_rc (containsP_rc _ v _ xs (fun x => !p x) (h.keeps hx.keeps) ⟨_, _, rfl, fun M hM x hxm => ?_⟩) ?_
    · refine rc_of_run mixed ok_impl_areAtMost_1_Parcel (by simp) (go_start _ _ _ ?_)
      have hb : rdc (roM M) m.length 0 = some (.func (.func g) #[] cap) := by
        rw [rdc_roM]
        refine hM.1 _ _ _ ?_
        rw [rdc_box (by rw [roM_len])]; rfl
      obtain ⟨a, b, c, rfl, ho3⟩ := h3 _ hxm
      simp (config := {implicitDefEqProofs := false, maxDischargeDepth := 20}) (disch := first | omega | (simp only [lenE]; done) | (simp only [lenE]; omega) | rfl | (simp only [lenE, markR_len]; done) | (simp only [lenE, markR_len]; omega)) only [runE, mapE, listE, initT_5, initT_6, initT_7, initT_8, resV, oneV, binA, unA, reduceCtorEq, Nat.reduceEqDiff, Nat.reduceAdd, Nat.reduceLT, Nat.reduceLeDiff, Nat.reduceMul, Nat.reduceSub, ↓reduceIte, decide_true, decide_false, Bool.true_eq_false, Bool.false_eq_true, Bool.not_true, Bool.not_false, if_true, if_false, and_true, true_and, memE, celE, w64, Nat.zero_add, Nat.add_zero, Nat.mul_one, putL, and_self, ldn, c_impl_areAtMost_1_Parcel, r_impl_areAtMost_1_Parcel, hb, fun new => rdc_ext (new := new) hb]
      refine callH_rc (hg _ (((hx.keeps.trans hM).trans (Keeps.ro M)).trans (Keeps.app _ _)) (.agg #[a, b, c]) hxm) ?_
      intro r new hA
      obtain ⟨hr, hn⟩ : r = .bool (p (.agg #[a, b, c])) ∧ NoRo new := hA
      subst hr
      simp (config := {implicitDefEqProofs := false, maxDischargeDepth := 20}) (disch := first | omega | (simp only [lenE]; done) | (simp only [lenE]; omega) | rfl | (simp only [lenE, markR_len]; done) | (simp only [lenE, markR_len]; omega)) only [runE, mapE, listE, initT_5, initT_6, initT_7, initT_8, resV, oneV, binA, unA, reduceCtorEq, Nat.reduceEqDiff, Nat.reduceAdd, Nat.reduceLT, Nat.reduceLeDiff, Nat.reduceMul, Nat.reduceSub, ↓reduceIte, decide_true, decide_false, Bool.true_eq_false, Bool.false_eq_true, Bool.not_true, Bool.not_false, if_true, if_false, and_true, true_and, memE, celE, w64, Nat.zero_add, Nat.add_zero, Nat.mul_one, putL, and_self, ldn]
      exact ext_ansV (((Ext.refl M).one _ _).app hn) rfl
    · rintro r new ⟨rfl, hn⟩
      simp (config := {implicitDefEqProofs := false, maxDischargeDepth := 20}) (disch := first | omega | (simp only [lenE]; done) | (simp only [lenE]; omega) | rfl | (simp only [lenE, markR_len]; done) | (simp only [lenE, markR_len]; omega)) only [runE, mapE, listE, initT_5, initT_6, initT_7, initT_8, resV, oneV, binA, unA, reduceCtorEq, Nat.reduceEqDiff, Nat.reduceAdd, Nat.reduceLT, Nat.reduceLeDiff, Nat.reduceMul, Nat.reduceSub, ↓reduceIte, decide_true, decide_false, Bool.true_eq_false, Bool.false_eq_true, Bool.not_true, Bool.not_false, if_true, if_false, and_true, true_and, memE, celE, w64, Nat.zero_add, Nat.add_zero, Nat.mul_one, putL, and_self, ldn]
      refine ext_ansV (hx.app hn) ?_
      rw [List.any_eq_not_all_not]
      simp
  · simp (config := {implicitDefEqProofs := false, maxDischargeDepth := 20}) (disch := first | omega | (simp only [lenE]; done) | (simp only [lenE]; omega) | rfl | (simp only [lenE, markR_len]; done) | (simp only [lenE, markR_len]; omega)) only [runE, mapE, listE, initT_5, initT_6, initT_7, initT_8, resV, oneV, binA, unA, reduceCtorEq, Nat.reduceEqDiff, Nat.reduceAdd, Nat.reduceLT, Nat.reduceLeDiff, Nat.reduceMul, Nat.reduceSub, ↓reduceIte, decide_true, decide_false, Bool.true_eq_false, Bool.false_eq_true, Bool.not_true, Bool.not_false, if_true, if_false, and_true, true_and, memE, celE, w64, Nat.zero_add, Nat.add_zero, Nat.mul_one, putL, and_self, ldn, c_impl_areAtMost_Parcel, r_impl_areAtMost_Parcel, h.len, hl]
    exact ext_ansV ((Ext.refl m).one _ _) (by simp)
theorem eachP_rc (m : Mem) (v fv : Value) (xs : List Value) (f : Value → Int) (h3 : ∀ x ∈ xs, ∃ a b c, x = .agg #[a, b, c] ∧ onesB [a, b, c] = true) (h : ElA m 3 (some 3) v xs) (hf : FunG m fv (fun x : Value => [x]) (· ∈ xs) (fun x => .int .i64 (f x))) (hl : xs.length ≤ 1000) :
    RC Try.prog 98 [v, fv] m (AnsR m (xs.map f)) := by
  refine rc_of_run mixed ok_impl_each_Parcel (by simp) (go_start _ _ _ ?_)
  obtain ⟨g, cap, rfl, hg⟩ := hf
  simp (config := {implicitDefEqProofs := false, maxDischargeDepth := 20}) (disch := first | omega | (simp only [lenE]; done) | (simp only [lenE]; omega) | rfl | (simp only [lenE, markR_len]; done) | (simp only [lenE, markR_len]; omega)) only [runE, mapE, listE, initT_5, initT_6, initT_7, initT_8, resV, oneV, binA, unA, reduceCtorEq, Nat.reduceEqDiff, Nat.reduceAdd, Nat.reduceLT, Nat.reduceLeDiff, Nat.reduceMul, Nat.reduceSub, ↓reduceIte, decide_true, decide_false, Bool.true_eq_false, Bool.false_eq_true, Bool.not_true, Bool.not_false, if_true, if_false, and_true, true_and, memE, celE, w64, Nat.zero_add, Nat.add_zero, Nat.mul_one, putL, and_self, ldn, c_impl_each_Parcel, r_impl_each_Parcel, h.len, bsl_none]
  refine loop_inv mixed (fun s => ∃ (k : Nat) (M : Mem) (id : Nat), k ≤ xs.length ∧ s.m = M ∧ Ext m M ∧ OwnR M id ((xs.take k).map f) ∧ m.length ≤ id ∧ s.t 1 = .func (.func g) #[] cap ∧ s.t 5 = .slice (some ⟨id, 0, none⟩) k 1 ∧ s.t 9 = v ∧ s.t 10 = .int .i64 xs.length ∧ s.t 11 = .int .i64 k) (fun s => xs.length - (intOf (s.t 11)).toNat)
    ⟨0, _, m.length, by omega, rfl, (Ext.refl m).one _ _, by have := OwnR.at_end (roM m) []; rwa [roM_len] at this, by omega, rfl, rfl, rfl, rfl, rfl⟩ ?_
  rintro s ⟨k, M, id, hk, tm, hx, ho, hid, t1, t5, t9, t10, t11⟩
  by_cases hlt : k < xs.length
  · have hlt' : (k : Int) < xs.length := by omega
    obtain ⟨q, e3, e4⟩ := (h.keeps hx.keeps).at_ k hlt
    have hmem := mem_getD hlt
    obtain ⟨a, b, c, hxe, ho3⟩ := h3 _ hmem
    rw [hxe] at e4 hmem
    simp (config := {implicitDefEqProofs := false, maxDischargeDepth := 20}) (disch := first | omega | (simp only [lenE]; done) | (simp only [lenE]; omega) | rfl | (simp only [lenE, markR_len]; done) | (simp only [lenE, markR_len]; omega)) only [runE, mapE, listE, initT_5, initT_6, initT_7, initT_8, resV, oneV, binA, unA, reduceCtorEq, Nat.reduceEqDiff, Nat.reduceAdd, Nat.reduceLT, Nat.reduceLeDiff, Nat.reduceMul, Nat.reduceSub, ↓reduceIte, decide_true, decide_false, Bool.true_eq_false, Bool.false_eq_true, Bool.not_true, Bool.not_false, if_true, if_false, and_true, true_and, memE, celE, w64, Nat.zero_add, Nat.add_zero, Nat.mul_one, putL, and_self, ldn, tm, t1, t5, t9, t10, t11, e3, e4, hlt', stP_agg3p, ho3]
    refine callH_rc (hg (M ++ [(⟨.own, 66, [a, b, c]⟩ : Blk)]) (hx.keeps.trans (Keeps.app _ _)) (.agg #[a, b, c]) hmem) ?_
    intro r new hA
    obtain ⟨hr, hn⟩ : r = .int .i64 (f (.agg #[a, b, c])) ∧ NoRo new := hA
    subst hr
    obtain ⟨M1, hM1⟩ : ∃ M', M' = (M ++ [(⟨.own, 66, [a, b, c]⟩ : Blk)]) ++ new := ⟨_, rfl⟩
    rw [← hM1]
    have hx1 : Ext m M1 := by rw [hM1]; exact (hx.one _ _).app hn
    have ho1 : OwnR M1 id ((xs.take k).map f) := by rw [hM1]; exact (ho.ext _).ext _
    clear hM1
    have ha := app_num (x := f (.agg #[a, b, c])) (id2 := M1.length) (n := k) ho1 (by simp; omega) rfl (by simp; omega)
    simp (config := {implicitDefEqProofs := false, maxDischargeDepth := 20}) (disch := first | omega | (simp only [lenE]; done) | (simp only [lenE]; omega) | rfl | (simp only [lenE, markR_len]; done) | (simp only [lenE, markR_len]; omega)) only [runE, mapE, listE, initT_5, initT_6, initT_7, initT_8, resV, oneV, binA, unA, reduceCtorEq, Nat.reduceEqDiff, Nat.reduceAdd, Nat.reduceLT, Nat.reduceLeDiff, Nat.reduceMul, Nat.reduceSub, ↓reduceIte, decide_true, decide_false, Bool.true_eq_false, Bool.false_eq_true, Bool.not_true, Bool.not_false, if_true, if_false, and_true, true_and, memE, celE, w64, Nat.zero_add, Nat.add_zero, Nat.mul_one, putL, and_self, ldn, tm, t1, t5, t9, t10, t11, bsl_one, ha]
    refine ⟨⟨k + 1, _, M1.length + 1, by omega, rfl, ((hx1.dead hid).one _ _).one _ _, ?_, by have := hx1.len; omega, rfl, by simp⟩, ?_⟩
    · rw [take_map_s hlt, hxe]
      have := OwnR.at_end (M1.set id deadB ++ [⟨.own, 3, [.int .i64 (f (.agg #[a, b, c]))]⟩]) ((xs.take k).map f ++ [f (.agg #[a, b, c])])
      simpa using this
    · simp [intOf]; omega
  · have hlt' : ¬ ((k : Int) < xs.length) := by omega
    have e : k = xs.length := by omega
    subst e
    rw [List.take_length] at ho
    simp (config := {implicitDefEqProofs := false, maxDischargeDepth := 20}) (disch := first | omega | (simp only [lenE]; done) | (simp only [lenE]; omega) | rfl | (simp only [lenE, markR_len]; done) | (simp only [lenE, markR_len]; omega)) only [runE, mapE, listE, initT_5, initT_6, initT_7, initT_8, resV, oneV, binA, unA, reduceCtorEq, Nat.reduceEqDiff, Nat.reduceAdd, Nat.reduceLT, Nat.reduceLeDiff, Nat.reduceMul, Nat.reduceSub, ↓reduceIte, decide_true, decide_false, Bool.true_eq_false, Bool.false_eq_true, Bool.not_true, Bool.not_false, if_true, if_false, and_true, true_and, memE, celE, w64, Nat.zero_add, Nat.add_zero, Nat.mul_one, putL, and_self, ldn, tm, t1, t5, t9, t10, t11, hlt']
    exact ext_ansR hx ho hid (by simp) (by simp; omega)
end Go.Proofs.Ytjdallbnbjnghaa.Ab
end
