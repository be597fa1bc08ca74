/- What the law needs of the texts that it rests on. -/
import Derived.Test.YtpedjcagaeedjaaAb2
import Derived.Test.YtpedjcagaeedjaaProg
import Derived.WalkKit
import Derived.Lib.Hide
import Derived.Below
import Derived.Laws.OwnMore
import Derived.Deep.Draws
import Derived.Test.YtpedjcagaeedjaaRows
import Derived.ProofKit
import Derived.SliceStrings
import Derived.OpenShut
import Derived.ChangeSlices
import Derived.Deep.Slices
import Derived.JoinedOf
section
namespace Go.Proofs.Ytpedjcagaeedjaa.Ab
open Go Go.RowKit
theorem initT_5 (x y z u v a : Value) (xs : List Value) : initT (x :: y :: z :: u :: v :: a :: xs) 5 = a := rfl
theorem initT_6 (x y z u v a b : Value) (xs : List Value) : initT (x :: y :: z :: u :: v :: a :: b :: xs) 6 = b := rfl
theorem initT_7 (x y z u v a b c : Value) (xs : List Value) : initT (x :: y :: z :: u :: v :: a :: b :: c :: xs) 7 = c := rfl
theorem initT_8 (x y z u v a b c d : Value) (xs : List Value) : initT (x :: y :: z :: u :: v :: a :: b :: c :: d :: xs) 8 = d := rfl
theorem runE : type_of% (And.intro (And.intro (And.intro (And.intro (And.intro (And.intro (And.intro @goC_skip @goC_reg) (And.intro @goC_seq (And.intro @goC_cond @goC_block))) (And.intro (And.intro @goC_loop (And.intro @goC_exit @goC_ret)) (And.intro @goB_true (And.intro @goB_false @goX_seq_normal)))) (And.intro (And.intro (And.intro @goX_seq_exit (And.intro @goX_seq_ret @goX_block_normal)) (And.intro @goX_block_ret (And.intro @goX_block_exit @goX_done))) (And.intro (And.intro @goR_nil (And.intro @goV_some @goA_some)) (And.intro @goS_some (And.intro @goG_run @goG_tf))))) (And.intro (And.intro (And.intro (And.intro @goG_ft (And.intro @goG_no @goR_guard)) (And.intro @callV_func (And.intro @rcallV_func @pickA_true))) (And.intro (And.intro @pickA_false (And.intro @beqA_eq @beqA_ne)) (And.intro @convA_int (And.intro @stP_int @stP_bool)))) (And.intro (And.intro (And.intro @stP_sl (And.intro @stP_fn @seqQ_normal)) (And.intro @seqQ_exit (And.intro @seqQ_ret @bodyQ_ret))) (And.intro (And.intro @bodyQ_normal (And.intro @row_mv @row_cpy)) (And.intro @row_mmx (And.intro @mmA_min @mmA_max)))))) (And.intro (And.intro (And.intro (And.intro (And.intro @row_mkf @row_pick) (And.intro @row_beq (And.intro @row_conv @row_bld))) (And.intro (And.intro @row_box (And.intro @row_alc @row_bsl)) (And.intro @row_mks (And.intro @row_st @row_app)))) (And.intro (And.intro (And.intro @row_call (And.intro @row_rcall @row_bin)) (And.intro @row_un (And.intro @row_ld @row_fld))) (And.intro (And.intro @row_fad (And.intro @row_iad @row_iada)) (And.intro @row_idxs (And.intro @row_idxa @row_slc))))) (And.intro (And.intro (And.intro (And.intro (And.intro @row_slcs @row_slcp) (And.intro @row_len @row_lens)) (And.intro @row_ext (And.intro @row_nilc @ev_tmp))) (And.intro (And.intro @ev_const (And.intro @ev_func @put_t)) (And.intro @put_t' (And.intro @put_m @putT_t)))) (And.intro (And.intro (And.intro @putT_t' (And.intro @putT_m @init_t)) (And.intro @init_m (And.intro @initT_0 @initT_1))) (And.intro (And.intro @initT_2 (And.intro @initT_3 @initT_4)) (And.intro @empty_list (And.intro @arr_list @lenA_sl))))))) (And.intro (And.intro (And.intro @row_mif @row_sln) (And.intro @row_ptn (And.intro @ptnA_nil @ptnA_some))) (And.intro @row_clr (And.intro @row_inv @invV_some)))) := (And.intro (And.intro (And.intro (And.intro (And.intro (And.intro (And.intro @goC_skip @goC_reg) (And.intro @goC_seq (And.intro @goC_cond @goC_block))) (And.intro (And.intro @goC_loop (And.intro @goC_exit @goC_ret)) (And.intro @goB_true (And.intro @goB_false @goX_seq_normal)))) (And.intro (And.intro (And.intro @goX_seq_exit (And.intro @goX_seq_ret @goX_block_normal)) (And.intro @goX_block_ret (And.intro @goX_block_exit @goX_done))) (And.intro (And.intro @goR_nil (And.intro @goV_some @goA_some)) (And.intro @goS_some (And.intro @goG_run @goG_tf))))) (And.intro (And.intro (And.intro (And.intro @goG_ft (And.intro @goG_no @goR_guard)) (And.intro @callV_func (And.intro @rcallV_func @pickA_true))) (And.intro (And.intro @pickA_false (And.intro @beqA_eq @beqA_ne)) (And.intro @convA_int (And.intro @stP_int @stP_bool)))) (And.intro (And.intro (And.intro @stP_sl (And.intro @stP_fn @seqQ_normal)) (And.intro @seqQ_exit (And.intro @seqQ_ret @bodyQ_ret))) (And.intro (And.intro @bodyQ_normal (And.intro @row_mv @row_cpy)) (And.intro @row_mmx (And.intro @mmA_min @mmA_max)))))) (And.intro (And.intro (And.intro (And.intro (And.intro @row_mkf @row_pick) (And.intro @row_beq (And.intro @row_conv @row_bld))) (And.intro (And.intro @row_box (And.intro @row_alc @row_bsl)) (And.intro @row_mks (And.intro @row_st @row_app)))) (And.intro (And.intro (And.intro @row_call (And.intro @row_rcall @row_bin)) (And.intro @row_un (And.intro @row_ld @row_fld))) (And.intro (And.intro @row_fad (And.intro @row_iad @row_iada)) (And.intro @row_idxs (And.intro @row_idxa @row_slc))))) (And.intro (And.intro (And.intro (And.intro (And.intro @row_slcs @row_slcp) (And.intro @row_len @row_lens)) (And.intro @row_ext (And.intro @row_nilc @ev_tmp))) (And.intro (And.intro @ev_const (And.intro @ev_func @put_t)) (And.intro @put_t' (And.intro @put_m @putT_t)))) (And.intro (And.intro (And.intro @putT_t' (And.intro @putT_m @init_t)) (And.intro @init_m (And.intro @initT_0 @initT_1))) (And.intro (And.intro @initT_2 (And.intro @initT_3 @initT_4)) (And.intro @empty_list (And.intro @arr_list @lenA_sl))))))) (And.intro (And.intro (And.intro @row_mif @row_sln) (And.intro @row_ptn (And.intro @ptnA_nil @ptnA_some))) (And.intro @row_clr (And.intro @row_inv @invV_some))))
theorem memE : type_of% (And.intro (And.intro (And.intro (And.intro (And.intro @fad1 @ld1) (And.intro @aggO_some @consO_some)) (And.intro (And.intro @rdn_0 @rdn_1) (And.intro @rdn_2 @rdn_3))) (And.intro (And.intro (And.intro @rdn_4 @rdn_5) (And.intro @rdn_6 @rdn_7)) (And.intro (And.intro @rdn_8 @rdc_lastH) (And.intro @rdc_left (And.intro @stA_left @stA_lastH))))) (And.intro (And.intro (And.intro (And.intro @stP_aggL @cells_agg) (And.intro @cells_sl @cells_int)) (And.intro (And.intro @cells_bool @cells_ptr) (And.intro @cells_str @cells_fn))) (And.intro (And.intro (And.intro @roM_len @onesB_sl) (And.intro @onesB_int @onesB_bool)) (And.intro (And.intro @onesB_str @onesB_ptr) (And.intro @onesB_fn (And.intro @onesB_nil @onesB_ints)))))) := (And.intro (And.intro (And.intro (And.intro (And.intro @fad1 @ld1) (And.intro @aggO_some @consO_some)) (And.intro (And.intro @rdn_0 @rdn_1) (And.intro @rdn_2 @rdn_3))) (And.intro (And.intro (And.intro @rdn_4 @rdn_5) (And.intro @rdn_6 @rdn_7)) (And.intro (And.intro @rdn_8 @rdc_lastH) (And.intro @rdc_left (And.intro @stA_left @stA_lastH))))) (And.intro (And.intro (And.intro (And.intro @stP_aggL @cells_agg) (And.intro @cells_sl @cells_int)) (And.intro (And.intro @cells_bool @cells_ptr) (And.intro @cells_str @cells_fn))) (And.intro (And.intro (And.intro @roM_len @onesB_sl) (And.intro @onesB_int @onesB_bool)) (And.intro (And.intro @onesB_str @onesB_ptr) (And.intro @onesB_fn (And.intro @onesB_nil @onesB_ints))))))
theorem listE : type_of% (And.intro (And.intro @List.map_cons.{0, 0} @List.map_nil.{0, 0}) (And.intro @List.cons_append.{0} (And.intro @List.nil_append.{0} @List.append_nil.{0}))) := (And.intro (And.intro @List.map_cons.{0, 0} @List.map_nil.{0, 0}) (And.intro @List.cons_append.{0} (And.intro @List.nil_append.{0} @List.append_nil.{0})))
theorem celE : type_of% (And.intro (And.intro (And.intro @Option.map_some.{0, 0} @List.getElem?_cons_zero.{0}) (And.intro @List.getElem?_cons_succ.{0} (And.intro @List.length_append.{0} @List.length_cons.{0}))) (And.intro (And.intro @List.length_nil.{0} @List.length_map.{0, 0}) (And.intro @List.length_set.{0} (And.intro @List.set_cons_zero.{0} @List.set_cons_succ.{0})))) := (And.intro (And.intro (And.intro @Option.map_some.{0, 0} @List.getElem?_cons_zero.{0}) (And.intro @List.getElem?_cons_succ.{0} (And.intro @List.length_append.{0} @List.length_cons.{0}))) (And.intro (And.intro @List.length_nil.{0} @List.length_map.{0, 0}) (And.intro @List.length_set.{0} (And.intro @List.set_cons_zero.{0} @List.set_cons_succ.{0}))))
theorem lenE : type_of% (And.intro (And.intro @List.length_append.{0} @List.length_cons.{0}) (And.intro @List.length_nil.{0} (And.intro @List.length_set.{0} @roM_len))) := (And.intro (And.intro @List.length_append.{0} @List.length_cons.{0}) (And.intro @List.length_nil.{0} (And.intro @List.length_set.{0} @roM_len)))
theorem mapE : type_of% (And.intro (And.intro (And.intro (And.intro (And.intro (And.intro @goC_both @row_aeq) @row_mkm) (And.intro @row_mup @row_lkp)) (And.intro (And.intro @stP_map @onesB_map) (And.intro @goC_range @rng_t2))) (And.intro (And.intro (And.intro @rng_t1 @rng_t0) (And.intro @rng_m @goC_scope)) (And.intro (And.intro @goC_goto @goC_label) (And.intro @goX_seq_goto (And.intro @goX_block_goto @goX_scope_normal))))) (And.intro (And.intro (And.intro (And.intro @goX_scope_ret @goX_scope_exit) (And.intro @goX_scope_goto @goJ_some)) (And.intro (And.intro @goJ_none @findA_seq) (And.intro @findA_label @findA_reg))) (And.intro (And.intro (And.intro @findA_skip @findA_cond) (And.intro @findA_block @findA_loop)) (And.intro (And.intro @findA_exit @findA_goto) (And.intro @findA_ret (And.intro @findS_some @findS_none)))))) := (And.intro (And.intro (And.intro (And.intro (And.intro (And.intro @goC_both @row_aeq) @row_mkm) (And.intro @row_mup @row_lkp)) (And.intro (And.intro @stP_map @onesB_map) (And.intro @goC_range @rng_t2))) (And.intro (And.intro (And.intro @rng_t1 @rng_t0) (And.intro @rng_m @goC_scope)) (And.intro (And.intro @goC_goto @goC_label) (And.intro @goX_seq_goto (And.intro @goX_block_goto @goX_scope_normal))))) (And.intro (And.intro (And.intro (And.intro @goX_scope_ret @goX_scope_exit) (And.intro @goX_scope_goto @goJ_some)) (And.intro (And.intro @goJ_none @findA_seq) (And.intro @findA_label @findA_reg))) (And.intro (And.intro (And.intro @findA_skip @findA_cond) (And.intro @findA_block @findA_loop)) (And.intro (And.intro @findA_exit @findA_goto) (And.intro @findA_ret (And.intro @findS_some @findS_none))))))
end Go.Proofs.Ytpedjcagaeedjaa.Ab
end
section
namespace Go.Proofs.Ytpedjcagaeedjaa.Ab
open Go Go.RowKit Go.Proofs
set_option maxRecDepth 100000
def c_laws_rBig : ACode := .seq (.reg [⟨(some 2), .mv (.const (.bool false)), none⟩])
 (.seq (.reg [⟨(some 3), .mv (.tmp 0), none⟩,
  ⟨(some 4), .len (.tmp 3), none⟩,
  ⟨(some 5), .bin .gtr (.tmp 4) (.const (.int .i64 65536)), none⟩,
  ⟨(some 2), .mv (.tmp 5), none⟩])
 (.ret))
def r_laws_rBig : List ARes := [.tmp 2]
theorem ok_laws_rBig : FnOk Try.prog 5 6 c_laws_rBig r_laws_rBig := ⟨⟨Try.f5, _, Try.func5, by kernel_rfl, rfl, rfl, by kernel_rfl, by kernel_rfl⟩⟩
end Go.Proofs.Ytpedjcagaeedjaa.Ab
end
section
namespace Go.Proofs.Ytpedjcagaeedjaa.Ab
open Go Go.RowKit
set_option linter.unusedVariables false
set_option linter.unusedSimpArgs false
theorem mixed : Try.prog.follows .mixedOrders = true := by kernel_rfl
def imarks (k : Int) (n : Nat) : List Int := (List.range n).map fun (j : Nat) => k + (j : Int)
end Go.Proofs.Ytpedjcagaeedjaa.Ab
end
section
namespace Go.Proofs.Ytpedjcagaeedjaa
set_option linter.unusedVariables false
def rowB (l : List Int) (n : Nat) (most : Int) : Bool := l.all (fun x => decide (0 ≤ x) && decide (x ≤ most)) && decide (l.length = n)
theorem rowB_iff {l : List Int} {n : Nat} {most : Int} : rowB l n most = true ↔ (∀ x ∈ l, 0 ≤ x ∧ x ≤ most) ∧ l.length = n := by
  simp [rowB]

structure Cs where
  need : List Int
  setup : List Int
  unit : List Int
  hold : List Int
def Cs.good (c : Cs) : Bool := decide (c.need.length ≤ 8) && rowB c.need c.need.length 20 && rowB c.setup c.need.length 99 && rowB c.unit c.need.length 9 && rowB c.hold c.need.length 9
structure Good (c : Cs) : Prop where
  n8 : c.need.length ≤ 8
  need : ∀ x ∈ c.need, 0 ≤ x ∧ x ≤ 20
  setup : ∀ x ∈ c.setup, 0 ≤ x ∧ x ≤ 99
  unit : ∀ x ∈ c.unit, 0 ≤ x ∧ x ≤ 9
  hold : ∀ x ∈ c.hold, 0 ≤ x ∧ x ≤ 9
  ls : c.setup.length = c.need.length
  lu : c.unit.length = c.need.length
  lh : c.hold.length = c.need.length
theorem at_mem {α : Type} {l : List α} {P : α → Prop} (h : ∀ x ∈ l, P x) {k : Nat} {x : α} (hk : l[k]? = some x) : P x := h x (List.mem_of_getElem? hk)
def sumTo (l : List Int) (k : Nat) : Int := (l.take k).sum
theorem sumTo_zero (l : List Int) : sumTo l 0 = 0 := rfl
theorem sumTo_succ {l : List Int} {k : Nat} {x : Int} (h : l[k]? = some x) : sumTo l (k + 1) = sumTo l k + x := by
  obtain ⟨hk, rfl⟩ := List.getElem?_eq_some_iff.1 h
  unfold sumTo
  rw [List.take_succ_eq_append_getElem hk, List.sum_append]
  simp
theorem sumTo_all {l : List Int} {k : Nat} (h : l.length ≤ k) : sumTo l k = l.sum := by
  unfold sumTo; rw [List.take_of_length_le h]
theorem sumTo_bound {l : List Int} {m : Int} (hm : 0 ≤ m) (h : ∀ x ∈ l, 0 ≤ x ∧ x ≤ m) (k : Nat) : 0 ≤ sumTo l k ∧ sumTo l k ≤ m * k := by
  induction k with
  | zero => simp [sumTo]
  | succ k ih =>
    by_cases hk : k < l.length
    · have h1 := sumTo_succ (List.getElem?_eq_getElem hk)
      have h2 := h _ (List.getElem_mem hk)
      rw [h1]
      have : m * ((k + 1 : Nat) : Int) = m * k + m := by rw [Int.natCast_add, Int.mul_add]; simp
      omega
    · have h1 : sumTo l (k + 1) = sumTo l k := by rw [sumTo_all (by omega), sumTo_all (by omega)]
      rw [h1]
      have : m * ((k + 1 : Nat) : Int) = m * k + m := by rw [Int.natCast_add, Int.mul_add]; simp
      omega
theorem sumTo_mono {l : List Int} (h : ∀ x ∈ l, 0 ≤ x) {j k : Nat} (hjk : j ≤ k) : sumTo l j ≤ sumTo l k := by
  induction k with
  | zero => obtain rfl : j = 0 := by omega
            exact Int.le_refl _
  | succ k ih =>
    rcases Nat.lt_or_ge j (k + 1) with h1 | h1
    · have := ih (by omega)
      by_cases hk : k < l.length
      · have h2 := sumTo_succ (List.getElem?_eq_getElem hk)
        have h3 := h _ (List.getElem_mem hk)
        omega
      · rw [show sumTo l (k + 1) = sumTo l k by rw [sumTo_all (by omega), sumTo_all (by omega)]]
        exact this
    · obtain rfl : j = k + 1 := by omega
      exact Int.le_refl _

theorem getD_bound {l : List Int} {m : Int} (hm : 0 ≤ m) (h : ∀ x ∈ l, 0 ≤ x ∧ x ≤ m) (k : Nat) : 0 ≤ l.getD k 0 ∧ l.getD k 0 ≤ m := by
  rw [List.getD_eq_getElem?_getD]
  cases hk : l[k]? with
  | none => simp [hm]
  | some x => simpa using at_mem h hk
theorem mul_bound {a b m n : Int} (ha : 0 ≤ a) (ha2 : a ≤ m) (hb : 0 ≤ b) (hb2 : b ≤ n) : 0 ≤ a * b ∧ a * b ≤ m * n :=
  ⟨Int.mul_nonneg ha hb, Int.le_trans (Int.mul_le_mul_of_nonneg_right ha2 hb) (Int.mul_le_mul_of_nonneg_left hb2 (by omega))⟩
end Go.Proofs.Ytpedjcagaeedjaa
end
section
namespace Go.Proofs.Ytpedjcagaeedjaa.Ab
open Go Go.RowKit
set_option linter.unusedVariables false
set_option linter.unusedSimpArgs false
abbrev rowB (l : List Int) : Blk := ⟨.own, 3, l.map (Value.int .i64)⟩
def markR (m : Mem) (id : Nat) (k0 : Int) (n : Nat) : Mem := m.set id (rowB (imarks k0 n))
theorem markR_len (m : Mem) (id : Nat) (k0 : Int) (n : Nat) : (markR m id k0 n).length = m.length := by simp [markR]

structure CaseA (m : Mem) (v : Value) (k : Cs) : Prop where
  ok : ∃ v1 v2 v3 v4, v = .agg #[v1, v2, v3, v4] ∧ IntsA m v1 k.need ∧ IntsA m v2 k.setup ∧ IntsA m v3 k.unit ∧ IntsA m v4 k.hold
theorem CaseA.ext {m : Mem} {v : Value} {k : Cs} (h : CaseA m v k) (new : Mem) : CaseA (m ++ new) v k := by
  obtain ⟨v1, v2, v3, v4, h0, h1, h2, h3, h4⟩ := h.ok
  exact ⟨v1, v2, v3, v4, h0, h1.ext new, h2.ext new, h3.ext new, h4.ext new⟩
theorem CaseA.ro {m : Mem} {v : Value} {k : Cs} (h : CaseA m v k) : CaseA (roM m) v k := by
  obtain ⟨v1, v2, v3, v4, h0, h1, h2, h3, h4⟩ := h.ok
  exact ⟨v1, v2, v3, v4, h0, h1.ro, h2.ro, h3.ro, h4.ro⟩
def _root_.Go.Proofs.Ytpedjcagaeedjaa.Cs.tot (k : Cs) : Int := k.need.length + k.setup.length + k.unit.length + k.hold.length
def _root_.Go.Proofs.Ytpedjcagaeedjaa.Cs.small (k : Cs) : Prop := k.need.length ≤ 1048576 ∧ k.setup.length ≤ 1048576 ∧ k.unit.length ≤ 1048576 ∧ k.hold.length ≤ 1048576

def OwnR (m : Mem) (id : Nat) (l : List Int) : Prop := m[id]? = some (rowB l)
theorem OwnR.lt {m : Mem} {id : Nat} {l : List Int} (h : OwnR m id l) : id < m.length := (List.getElem?_eq_some_iff.1 h).1
theorem OwnR.ext {m : Mem} {id : Nat} {l : List Int} (h : OwnR m id l) (new : Mem) : OwnR (m ++ new) id l := by
  unfold OwnR; rw [List.getElem?_append_left h.lt]; exact h
theorem OwnR.ints {m : Mem} {id : Nat} {l : List Int} (h : OwnR m id l) (hb : l.length ≤ 9223372036854775807) (fl : Nat) : IntsA m (.slice (some ⟨id, 0, none⟩) l.length fl) l := by
  refine IntsA.of_block hb (fun k hk => ?_) ?_
  · unfold rdc
    rw [show m[id]? = some (rowB l) from h]
    simp [hk]
  · unfold rdl
    rw [show m[id]? = some (rowB l) from h]
    simp [List.take_of_length_le]
end Go.Proofs.Ytpedjcagaeedjaa.Ab
end
section
namespace Go.Proofs.Ytpedjcagaeedjaa.Ab
open Go Go.RowKit Go.Proofs
set_option maxRecDepth 100000
def c_spec_DrawInProportion : ACode := .seq (.reg [⟨(some 2), .alc 26 [(.slice none 0 0), (.int .i64 0), (.int .i64 0), (.int .i64 0)], none⟩,
  ⟨(some 3), .alc 28 [(.int .i64 0), (.int .i64 0), (.int .i64 0)], none⟩])
 (.seq (.reg [⟨(some 4), .mv (.tmp 0), none⟩,
  ⟨(some 5), .call (.func 69) [(.tmp 4)], none⟩,
  ⟨(some 6), .ext 0 (.tmp 5), none⟩,
  ⟨(some 7), .ext 1 (.tmp 5), none⟩,
  ⟨none, .st 4 (.tmp 2) (.tmp 6), none⟩,
  ⟨none, .st 3 (.tmp 3) (.tmp 7), none⟩])
 (.ret))
def r_spec_DrawInProportion : List ARes := [.cell 2 (some 4), .cell 3 (some 3)]
theorem ok_spec_DrawInProportion : FnOk Try.prog 28 8 c_spec_DrawInProportion r_spec_DrawInProportion := ⟨⟨Try.f28, _, Try.func28, by kernel_rfl, rfl, rfl, by kernel_rfl, by kernel_rfl⟩⟩
def c_spec_DrawPayFor : ACode := .seq (.reg [⟨(some 2), .alc 26 [(.slice none 0 0), (.int .i64 0), (.int .i64 0), (.int .i64 0)], none⟩,
  ⟨(some 3), .mv (.const (.int .i64 0)), none⟩,
  ⟨(some 4), .mv (.const (.int .i64 0)), none⟩])
 (.seq (.reg [⟨(some 6), .mv (.tmp 0), none⟩,
  ⟨(some 7), .bld [(.slice none 0 0), (.int .i64 0), (.int .u64 0)] [(0, 1, (.tmp 6))], none⟩,
  ⟨(some 8), .box 59 (.tmp 7), none⟩,
  ⟨(some 5), .mv (.tmp 8), none⟩])
 (.seq (.reg [⟨(some 9), .mv (.tmp 5), none⟩,
  ⟨(some 10), .call (.func 44) [(.tmp 9)], none⟩,
  ⟨(some 11), .mv (.tmp 5), none⟩,
  ⟨(some 12), .bsl 3 1 9 [(.int .i64 0), (.int .i64 0), (.int .i64 0), (.int .i64 0), (.int .i64 0), (.int .i64 0), (.int .i64 0), (.int .i64 0), (.int .i64 0)] [(0, 1, (.const (.int .i64 0))), (1, 1, (.const (.int .i64 1))), (2, 1, (.const (.int .i64 2))), (3, 1, (.const (.int .i64 3))), (4, 1, (.const (.int .i64 5))), (5, 1, (.const (.int .i64 8))), (6, 1, (.const (.int .i64 99))), (7, 1, (.const (.int .i64 100))), (8, 1, (.const (.int .i64 (-1))))], none⟩,
  ⟨(some 13), .call (.func 77) [(.tmp 11), (.tmp 12)], none⟩,
  ⟨(some 14), .mv (.tmp 5), none⟩,
  ⟨(some 15), .bsl 3 1 8 [(.int .i64 0), (.int .i64 0), (.int .i64 0), (.int .i64 0), (.int .i64 0), (.int .i64 0), (.int .i64 0), (.int .i64 0)] [(0, 1, (.const (.int .i64 100))), (1, 1, (.const (.int .i64 80))), (2, 1, (.const (.int .i64 50))), (3, 1, (.const (.int .i64 25))), (4, 1, (.const (.int .i64 0))), (5, 1, (.const (.int .i64 101))), (6, 1, (.const (.int .i64 (-1)))), (7, 1, (.const (.int .i64 100)))], none⟩,
  ⟨(some 16), .call (.func 77) [(.tmp 14), (.tmp 15)], none⟩,
  ⟨none, .st 4 (.tmp 2) (.tmp 10), none⟩,
  ⟨(some 3), .mv (.tmp 13), none⟩,
  ⟨(some 4), .mv (.tmp 16), none⟩])
 (.ret)))
def r_spec_DrawPayFor : List ARes := [.cell 2 (some 4), .tmp 3, .tmp 4]
theorem ok_spec_DrawPayFor : FnOk Try.prog 39 17 c_spec_DrawPayFor r_spec_DrawPayFor := ⟨⟨Try.f39, _, Try.func39, by kernel_rfl, rfl, rfl, by kernel_rfl, by kernel_rfl⟩⟩
def c_spec_l1Cur__market : ACode := .seq (.reg [⟨(some 2), .alc 26 [(.slice none 0 0), (.int .i64 0), (.int .i64 0), (.int .i64 0)], none⟩])
 (.seq (.reg [⟨(some 7), .mv (.tmp 0), none⟩,
  ⟨(some 8), .bsl 3 1 7 [(.int .i64 0), (.int .i64 0), (.int .i64 0), (.int .i64 0), (.int .i64 0), (.int .i64 0), (.int .i64 0)] [(0, 1, (.const (.int .i64 10))), (1, 1, (.const (.int .i64 12))), (2, 1, (.const (.int .i64 20))), (3, 1, (.const (.int .i64 6))), (4, 1, (.const (.int .i64 30))), (5, 1, (.const (.int .i64 99))), (6, 1, (.const (.int .i64 1)))], none⟩,
  ⟨(some 9), .call (.func 77) [(.tmp 7), (.tmp 8)], none⟩,
  ⟨(some 3), .mv (.tmp 9), none⟩])
 (.seq (.reg [⟨(some 10), .mv (.tmp 0), none⟩,
  ⟨(some 11), .call (.func 80) [(.tmp 10), (.const (.int .i64 3))], none⟩,
  ⟨(some 4), .mv (.tmp 11), none⟩])
 (.seq (.reg [⟨(some 12), .mv (.tmp 3), none⟩,
  ⟨(some 13), .mv (.tmp 4), none⟩,
  ⟨(some 14), .mv (.tmp 0), none⟩,
  ⟨(some 15), .mv (.tmp 3), none⟩,
  ⟨(some 16), .call (.func 80) [(.tmp 14), (.tmp 15)], none⟩,
  ⟨(some 17), .bin .add (.tmp 13) (.tmp 16), none⟩,
  ⟨(some 18), .mv (.tmp 3), none⟩,
  ⟨(some 19), .call (.func 81) [(.tmp 17), (.tmp 18)], none⟩,
  ⟨(some 20), .mv (.tmp 4), none⟩,
  ⟨(some 21), .mv (.tmp 3), none⟩,
  ⟨(some 22), .call (.func 81) [(.tmp 20), (.tmp 21)], none⟩,
  ⟨(some 23), .bld [(.slice none 0 0), (.int .i64 0), (.int .i64 0), (.int .i64 0)] [(1, 1, (.tmp 12)), (2, 1, (.tmp 19)), (3, 1, (.tmp 22))], none⟩,
  ⟨(some 5), .alc 26 [(.slice none 0 0), (.int .i64 0), (.int .i64 0), (.int .i64 0)], none⟩,
  ⟨none, .st 4 (.tmp 5) (.tmp 23), none⟩])
 (.seq (.reg [⟨(some 24), .fad 3 (.tmp 5), none⟩,
  ⟨(some 25), .ld none (.tmp 24), none⟩,
  ⟨(some 26), .fad 2 (.tmp 5), none⟩,
  ⟨(some 27), .ld none (.tmp 26), none⟩,
  ⟨(some 28), .call (.func 81) [(.tmp 25), (.tmp 27)], none⟩,
  ⟨(some 29), .fad 3 (.tmp 5), none⟩,
  ⟨none, .st 1 (.tmp 29) (.tmp 28), none⟩])
 (.seq (.seq (.reg [⟨(some 30), .mv (.tmp 0), none⟩,
  ⟨(some 31), .call (.func 80) [(.tmp 30), (.const (.int .i64 9))], none⟩,
  ⟨(some 32), .bin .add (.const (.int .i64 1)) (.tmp 31), none⟩,
  ⟨(some 6), .mv (.tmp 32), none⟩])
 (.block 0 (.loop (.seq (.seq (.reg [⟨(some 33), .mv (.tmp 6), none⟩,
  ⟨(some 34), .bin .gtr (.tmp 33) (.const (.int .i64 0)), none⟩])
 (.cond (.tmp 34) (.skip) (.exit 0)))
 (.seq (.block 1 (.seq (.reg [⟨(some 37), .fad 0 (.tmp 5), none⟩]) (.seq (.reg [⟨(some 39), .mv (.tmp 0), none⟩]) (.both (.seq (.reg [⟨(some 38), .ld none (.tmp 37), none⟩]) (.seq (.reg [⟨(some 40), .bsl 3 1 6 [(.int .i64 0), (.int .i64 0), (.int .i64 0), (.int .i64 0), (.int .i64 0), (.int .i64 0)] [(0, 1, (.const (.int .i64 1))), (1, 1, (.const (.int .i64 2))), (2, 1, (.const (.int .i64 1))), (3, 1, (.const (.int .i64 0))), (4, 1, (.const (.int .i64 3))), (5, 1, (.const (.int .i64 4)))], none⟩]) (.seq (.reg [⟨(some 41), .call (.func 77) [(.tmp 39), (.tmp 40)], none⟩]) (.seq (.reg [⟨(some 42), .bsl 3 1 1 [(.int .i64 0)] [(0, 1, (.tmp 41))], none⟩]) (.seq (.reg [⟨(some 43), .app 3 1 8 (.tmp 38) (.tmp 42), none⟩]) (.seq (.reg [⟨(some 44), .fad 0 (.tmp 5), none⟩]) (.seq (.reg [⟨none, .st 1 (.tmp 44) (.tmp 43), none⟩]) (.skip)))))))) (.seq (.reg [⟨(some 40), .bsl 3 1 6 [(.int .i64 0), (.int .i64 0), (.int .i64 0), (.int .i64 0), (.int .i64 0), (.int .i64 0)] [(0, 1, (.const (.int .i64 1))), (1, 1, (.const (.int .i64 2))), (2, 1, (.const (.int .i64 1))), (3, 1, (.const (.int .i64 0))), (4, 1, (.const (.int .i64 3))), (5, 1, (.const (.int .i64 4)))], none⟩]) (.both (.seq (.reg [⟨(some 38), .ld none (.tmp 37), none⟩]) (.seq (.reg [⟨(some 41), .call (.func 77) [(.tmp 39), (.tmp 40)], none⟩]) (.seq (.reg [⟨(some 42), .bsl 3 1 1 [(.int .i64 0)] [(0, 1, (.tmp 41))], none⟩]) (.seq (.reg [⟨(some 43), .app 3 1 8 (.tmp 38) (.tmp 42), none⟩]) (.seq (.reg [⟨(some 44), .fad 0 (.tmp 5), none⟩]) (.seq (.reg [⟨none, .st 1 (.tmp 44) (.tmp 43), none⟩]) (.skip))))))) (.seq (.reg [⟨(some 41), .call (.func 77) [(.tmp 39), (.tmp 40)], none⟩]) (.seq (.reg [⟨(some 38), .ld none (.tmp 37), none⟩]) (.seq (.reg [⟨(some 42), .bsl 3 1 1 [(.int .i64 0)] [(0, 1, (.tmp 41))], none⟩]) (.seq (.reg [⟨(some 43), .app 3 1 8 (.tmp 38) (.tmp 42), none⟩]) (.seq (.reg [⟨(some 44), .fad 0 (.tmp 5), none⟩]) (.seq (.reg [⟨none, .st 1 (.tmp 44) (.tmp 43), none⟩]) (.skip)))))))))))))
 (.reg [⟨(some 35), .mv (.tmp 6), none⟩,
  ⟨(some 36), .bin .sub (.tmp 35) (.const (.int .i64 1)), none⟩,
  ⟨(some 6), .mv (.tmp 36), none⟩]))))))
 (.seq (.seq (.reg [⟨(some 45), .fad 0 (.tmp 5), none⟩,
  ⟨(some 46), .ld none (.tmp 45), none⟩,
  ⟨(some 47), .call (.func 66) [(.tmp 46)], none⟩,
  ⟨(some 48), .bin .eql (.tmp 47) (.const (.int .i64 0)), none⟩])
 (.cond (.tmp 48) (.reg [⟨(some 49), .fad 0 (.tmp 5), none⟩,
  ⟨(some 50), .ld none (.tmp 49), none⟩,
  ⟨(some 51), .iad 1 (.tmp 50) (.const (.int .i64 0)), none⟩,
  ⟨none, .st 1 (.tmp 51) (.const (.int .i64 1)), none⟩]) (.skip)))
 (.seq (.seq (.reg [⟨(some 52), .mv (.tmp 0), none⟩,
  ⟨(some 53), .call (.func 80) [(.tmp 52), (.const (.int .i64 40))], none⟩])
 (.block 2 (.seq (.reg [⟨(some 55), .bin .eql (.tmp 53) (.const (.int .i64 0)), none⟩,
  ⟨(some 54), .mv (.tmp 55), none⟩])
 (.cond (.tmp 54) (.reg [⟨(some 56), .mv (.tmp 0), none⟩,
  ⟨(some 57), .bsl 3 1 3 [(.int .i64 0), (.int .i64 0), (.int .i64 0)] [(0, 1, (.const (.int .i64 0))), (1, 1, (.const (.int .i64 99))), (2, 1, (.const (.int .i64 100)))], none⟩,
  ⟨(some 58), .call (.func 77) [(.tmp 56), (.tmp 57)], none⟩,
  ⟨(some 59), .fad 1 (.tmp 5), none⟩,
  ⟨none, .st 1 (.tmp 59) (.tmp 58), none⟩]) (.seq (.reg [⟨(some 61), .bin .eql (.tmp 53) (.const (.int .i64 1)), none⟩,
  ⟨(some 60), .mv (.tmp 61), none⟩])
 (.cond (.tmp 60) (.reg [⟨(some 62), .mv (.tmp 0), none⟩,
  ⟨(some 63), .fad 1 (.tmp 5), none⟩,
  ⟨(some 64), .ld none (.tmp 63), none⟩,
  ⟨(some 65), .fad 1 (.tmp 5), none⟩,
  ⟨(some 66), .ld none (.tmp 65), none⟩,
  ⟨(some 67), .bin .add (.tmp 66) (.const (.int .i64 1)), none⟩,
  ⟨(some 68), .bsl 3 1 3 [(.int .i64 0), (.int .i64 0), (.int .i64 0)] [(0, 1, (.const (.int .i64 (-1)))), (1, 1, (.tmp 64)), (2, 1, (.tmp 67))], none⟩,
  ⟨(some 69), .call (.func 77) [(.tmp 62), (.tmp 68)], none⟩,
  ⟨(some 70), .fad 2 (.tmp 5), none⟩,
  ⟨none, .st 1 (.tmp 70) (.tmp 69), none⟩]) (.seq (.reg [⟨(some 72), .bin .eql (.tmp 53) (.const (.int .i64 2)), none⟩,
  ⟨(some 71), .mv (.tmp 72), none⟩])
 (.cond (.tmp 71) (.reg [⟨(some 73), .mv (.tmp 0), none⟩,
  ⟨(some 74), .fad 2 (.tmp 5), none⟩,
  ⟨(some 75), .ld none (.tmp 74), none⟩,
  ⟨(some 76), .fad 2 (.tmp 5), none⟩,
  ⟨(some 77), .ld none (.tmp 76), none⟩,
  ⟨(some 78), .bin .add (.tmp 77) (.const (.int .i64 1)), none⟩,
  ⟨(some 79), .bsl 3 1 3 [(.int .i64 0), (.int .i64 0), (.int .i64 0)] [(0, 1, (.const (.int .i64 (-1)))), (1, 1, (.tmp 75)), (2, 1, (.tmp 78))], none⟩,
  ⟨(some 80), .call (.func 77) [(.tmp 73), (.tmp 79)], none⟩,
  ⟨(some 81), .fad 3 (.tmp 5), none⟩,
  ⟨none, .st 1 (.tmp 81) (.tmp 80), none⟩]) (.seq (.reg [⟨(some 83), .bin .eql (.tmp 53) (.const (.int .i64 3)), none⟩,
  ⟨(some 82), .mv (.tmp 83), none⟩])
 (.cond (.tmp 82) (.seq (.reg [⟨(some 84), .fad 0 (.tmp 5), none⟩]) (.seq (.reg [⟨(some 86), .mv (.tmp 0), none⟩]) (.both (.seq (.reg [⟨(some 85), .ld none (.tmp 84), none⟩]) (.seq (.reg [⟨(some 87), .bsl 3 1 2 [(.int .i64 0), (.int .i64 0)] [(0, 1, (.const (.int .i64 (-1)))), (1, 1, (.const (.int .i64 5)))], none⟩]) (.seq (.reg [⟨(some 88), .call (.func 77) [(.tmp 86), (.tmp 87)], none⟩]) (.seq (.reg [⟨(some 89), .iad 1 (.tmp 85) (.const (.int .i64 0)), none⟩]) (.seq (.reg [⟨none, .st 1 (.tmp 89) (.tmp 88), none⟩]) (.skip)))))) (.seq (.reg [⟨(some 87), .bsl 3 1 2 [(.int .i64 0), (.int .i64 0)] [(0, 1, (.const (.int .i64 (-1)))), (1, 1, (.const (.int .i64 5)))], none⟩]) (.both (.seq (.reg [⟨(some 85), .ld none (.tmp 84), none⟩]) (.seq (.reg [⟨(some 88), .call (.func 77) [(.tmp 86), (.tmp 87)], none⟩]) (.seq (.reg [⟨(some 89), .iad 1 (.tmp 85) (.const (.int .i64 0)), none⟩]) (.seq (.reg [⟨none, .st 1 (.tmp 89) (.tmp 88), none⟩]) (.skip))))) (.seq (.reg [⟨(some 88), .call (.func 77) [(.tmp 86), (.tmp 87)], none⟩]) (.seq (.reg [⟨(some 85), .ld none (.tmp 84), none⟩]) (.seq (.reg [⟨(some 89), .iad 1 (.tmp 85) (.const (.int .i64 0)), none⟩]) (.seq (.reg [⟨none, .st 1 (.tmp 89) (.tmp 88), none⟩]) (.skip)))))))))) (.seq (.reg [⟨(some 91), .bin .eql (.tmp 53) (.const (.int .i64 4)), none⟩,
  ⟨(some 90), .mv (.tmp 91), none⟩])
 (.cond (.tmp 90) (.block 3 (.loop (.seq (.seq (.reg [⟨(some 92), .fad 0 (.tmp 5), none⟩,
  ⟨(some 93), .ld none (.tmp 92), none⟩,
  ⟨(some 94), .len (.tmp 93), none⟩,
  ⟨(some 95), .bin .lss (.tmp 94) (.const (.int .i64 10)), none⟩])
 (.cond (.tmp 95) (.skip) (.exit 3)))
 (.block 4 (.reg [⟨(some 96), .fad 0 (.tmp 5), none⟩,
  ⟨(some 97), .ld none (.tmp 96), none⟩,
  ⟨(some 98), .bsl 3 1 1 [(.int .i64 0)] [(0, 1, (.const (.int .i64 1)))], none⟩,
  ⟨(some 99), .app 3 1 8 (.tmp 97) (.tmp 98), none⟩,
  ⟨(some 100), .fad 0 (.tmp 5), none⟩,
  ⟨none, .st 1 (.tmp 100) (.tmp 99), none⟩]))))) (.skip)))))))))))))
 (.seq (.reg [⟨(some 101), .ld (some 4) (.tmp 5), none⟩,
  ⟨none, .st 4 (.tmp 2) (.tmp 101), none⟩])
 (.ret)))))))))
def r_spec_l1Cur__market : List ARes := [.cell 2 (some 4)]
theorem ok_spec_l1Cur__market : FnOk Try.prog 44 102 c_spec_l1Cur__market r_spec_l1Cur__market := ⟨⟨Try.f44, _, Try.func44, by kernel_rfl, rfl, rfl, by kernel_rfl, by kernel_rfl⟩⟩
def c_spec_l1Cur__contract : ACode := .seq (.reg [⟨(some 3), .box 26 (.tmp 1), none⟩,
  ⟨(some 4), .alc 28 [(.int .i64 0), (.int .i64 0), (.int .i64 0)], none⟩])
 (.seq (.reg [⟨(some 8), .mv (.tmp 0), none⟩,
  ⟨(some 9), .fad 1 (.tmp 3), none⟩,
  ⟨(some 10), .ld none (.tmp 9), none⟩,
  ⟨(some 11), .call (.func 82) [(.tmp 10), (.const (.int .i64 0))], none⟩,
  ⟨(some 12), .bin .add (.tmp 11) (.const (.int .i64 2)), none⟩,
  ⟨(some 13), .call (.func 80) [(.tmp 8), (.tmp 12)], none⟩,
  ⟨(some 14), .mv (.tmp 0), none⟩,
  ⟨(some 15), .call (.func 80) [(.tmp 14), (.const (.int .i64 6))], none⟩,
  ⟨(some 16), .mv (.tmp 0), none⟩,
  ⟨(some 17), .bsl 3 1 5 [(.int .i64 0), (.int .i64 0), (.int .i64 0), (.int .i64 0), (.int .i64 0)] [(0, 1, (.const (.int .i64 100))), (1, 1, (.const (.int .i64 100))), (2, 1, (.const (.int .i64 80))), (3, 1, (.const (.int .i64 50))), (4, 1, (.const (.int .i64 0)))], none⟩,
  ⟨(some 18), .call (.func 77) [(.tmp 16), (.tmp 17)], none⟩,
  ⟨(some 19), .bld [(.int .i64 0), (.int .i64 0), (.int .i64 0)] [(0, 1, (.tmp 13)), (1, 1, (.tmp 15)), (2, 1, (.tmp 18))], none⟩,
  ⟨(some 5), .alc 28 [(.int .i64 0), (.int .i64 0), (.int .i64 0)], none⟩,
  ⟨none, .st 3 (.tmp 5) (.tmp 19), none⟩])
 (.seq (.seq (.reg [⟨(some 21), .ld (some 4) (.tmp 3), none⟩,
  ⟨(some 22), .fad 1 (.tmp 5), none⟩,
  ⟨(some 23), .ld none (.tmp 22), none⟩,
  ⟨(some 24), .fad 2 (.tmp 5), none⟩,
  ⟨(some 25), .ld none (.tmp 24), none⟩,
  ⟨(some 26), .call (.func 41) [(.tmp 21), (.tmp 23), (.tmp 25)], none⟩,
  ⟨(some 20), .mv (.tmp 26), none⟩,
  ⟨(some 27), .ext 0 (.tmp 20), none⟩,
  ⟨(some 28), .ext 1 (.tmp 20), none⟩,
  ⟨(some 6), .mv (.tmp 27), none⟩,
  ⟨(some 7), .mv (.tmp 28), none⟩])
 (.seq (.reg [⟨(some 29), .mv (.tmp 7), none⟩,
  ⟨(some 30), .mv (.tmp 29), none⟩,
  ⟨(some 31), .mv (.tmp 0), (some (30, true))⟩,
  ⟨(some 32), .call (.func 83) [(.tmp 31), (.const (.int .i64 2))], (some (30, true))⟩,
  ⟨(some 33), .pick (.tmp 30) (.tmp 32) (.const (.bool false)), none⟩])
 (.cond (.tmp 33) (.reg [⟨(some 34), .mv (.tmp 6), none⟩,
  ⟨(some 35), .fad 0 (.tmp 5), none⟩,
  ⟨none, .st 1 (.tmp 35) (.tmp 34), none⟩]) (.skip))))
 (.seq (.seq (.reg [⟨(some 36), .mv (.tmp 0), none⟩,
  ⟨(some 37), .call (.func 80) [(.tmp 36), (.const (.int .i64 40))], none⟩])
 (.block 0 (.seq (.reg [⟨(some 39), .bin .eql (.tmp 37) (.const (.int .i64 0)), none⟩,
  ⟨(some 38), .mv (.tmp 39), none⟩])
 (.cond (.tmp 38) (.reg [⟨(some 40), .mv (.tmp 0), none⟩,
  ⟨(some 41), .bsl 3 1 3 [(.int .i64 0), (.int .i64 0), (.int .i64 0)] [(0, 1, (.const (.int .i64 (-1)))), (1, 1, (.const (.int .i64 99))), (2, 1, (.const (.int .i64 100)))], none⟩,
  ⟨(some 42), .call (.func 77) [(.tmp 40), (.tmp 41)], none⟩,
  ⟨(some 43), .fad 0 (.tmp 5), none⟩,
  ⟨none, .st 1 (.tmp 43) (.tmp 42), none⟩]) (.seq (.reg [⟨(some 45), .bin .eql (.tmp 37) (.const (.int .i64 1)), none⟩,
  ⟨(some 44), .mv (.tmp 45), none⟩])
 (.cond (.tmp 44) (.reg [⟨(some 46), .mv (.tmp 0), none⟩,
  ⟨(some 47), .bsl 3 1 3 [(.int .i64 0), (.int .i64 0), (.int .i64 0)] [(0, 1, (.const (.int .i64 (-1)))), (1, 1, (.const (.int .i64 99))), (2, 1, (.const (.int .i64 100)))], none⟩,
  ⟨(some 48), .call (.func 77) [(.tmp 46), (.tmp 47)], none⟩,
  ⟨(some 49), .fad 1 (.tmp 5), none⟩,
  ⟨none, .st 1 (.tmp 49) (.tmp 48), none⟩]) (.seq (.reg [⟨(some 51), .bin .eql (.tmp 37) (.const (.int .i64 2)), none⟩,
  ⟨(some 50), .mv (.tmp 51), none⟩])
 (.cond (.tmp 50) (.reg [⟨(some 52), .mv (.tmp 0), none⟩,
  ⟨(some 53), .bsl 3 1 2 [(.int .i64 0), (.int .i64 0)] [(0, 1, (.const (.int .i64 (-1)))), (1, 1, (.const (.int .i64 101)))], none⟩,
  ⟨(some 54), .call (.func 77) [(.tmp 52), (.tmp 53)], none⟩,
  ⟨(some 55), .fad 2 (.tmp 5), none⟩,
  ⟨none, .st 1 (.tmp 55) (.tmp 54), none⟩]) (.skip)))))))))
 (.seq (.reg [⟨(some 56), .ld (some 3) (.tmp 5), none⟩,
  ⟨none, .st 3 (.tmp 4) (.tmp 56), none⟩])
 (.ret)))))
def r_spec_l1Cur__contract : List ARes := [.cell 4 (some 3)]
theorem ok_spec_l1Cur__contract : FnOk Try.prog 45 57 c_spec_l1Cur__contract r_spec_l1Cur__contract := ⟨⟨Try.f45, _, Try.func45, by kernel_rfl, rfl, rfl, by kernel_rfl, by kernel_rfl⟩⟩
def c_spec_DrawSellerOrder : ACode := .seq (.reg [⟨(some 2), .alc 26 [(.slice none 0 0), (.int .i64 0), (.int .i64 0), (.int .i64 0)], none⟩,
  ⟨(some 3), .alc 28 [(.int .i64 0), (.int .i64 0), (.int .i64 0)], none⟩])
 (.seq (.reg [⟨(some 6), .mv (.tmp 0), none⟩,
  ⟨(some 7), .bld [(.slice none 0 0), (.int .i64 0), (.int .u64 0)] [(0, 1, (.tmp 6))], none⟩,
  ⟨(some 8), .box 59 (.tmp 7), none⟩,
  ⟨(some 4), .mv (.tmp 8), none⟩])
 (.seq (.reg [⟨(some 9), .mv (.tmp 4), none⟩,
  ⟨(some 10), .call (.func 44) [(.tmp 9)], none⟩,
  ⟨(some 5), .alc 26 [(.slice none 0 0), (.int .i64 0), (.int .i64 0), (.int .i64 0)], none⟩,
  ⟨none, .st 4 (.tmp 5) (.tmp 10), none⟩])
 (.seq (.seq (.reg [⟨(some 12), .mv (.tmp 4), none⟩]) (.seq (.reg [⟨(some 13), .ld (some 4) (.tmp 5), none⟩]) (.both (.seq (.reg [⟨(some 11), .ld (some 4) (.tmp 5), none⟩]) (.seq (.reg [⟨(some 14), .call (.func 45) [(.tmp 12), (.tmp 13)], none⟩]) (.seq (.reg [⟨none, .st 4 (.tmp 2) (.tmp 11), none⟩]) (.seq (.reg [⟨none, .st 3 (.tmp 3) (.tmp 14), none⟩]) (.skip))))) (.seq (.reg [⟨(some 14), .call (.func 45) [(.tmp 12), (.tmp 13)], none⟩]) (.seq (.reg [⟨(some 11), .ld (some 4) (.tmp 5), none⟩]) (.seq (.reg [⟨none, .st 4 (.tmp 2) (.tmp 11), none⟩]) (.seq (.reg [⟨none, .st 3 (.tmp 3) (.tmp 14), none⟩]) (.skip))))))))
 (.ret))))
def r_spec_DrawSellerOrder : List ARes := [.cell 2 (some 4), .cell 3 (some 3)]
theorem ok_spec_DrawSellerOrder : FnOk Try.prog 69 15 c_spec_DrawSellerOrder r_spec_DrawSellerOrder := ⟨⟨Try.f69, _, Try.func69, by kernel_rfl, rfl, rfl, by kernel_rfl, by kernel_rfl⟩⟩
def c_spec_l1Cur__among : ACode := .seq (.reg [⟨(some 4), .mv (.const (.int .i64 0)), none⟩])
 (.seq (.reg [⟨(some 5), .mv (.tmp 1), none⟩,
  ⟨(some 6), .mv (.tmp 0), none⟩,
  ⟨(some 7), .mv (.tmp 1), none⟩,
  ⟨(some 8), .len (.tmp 7), none⟩,
  ⟨(some 9), .call (.func 80) [(.tmp 6), (.tmp 8)], none⟩,
  ⟨(some 10), .iad 1 (.tmp 5) (.tmp 9), none⟩,
  ⟨(some 11), .ld none (.tmp 10), none⟩,
  ⟨(some 4), .mv (.tmp 11), none⟩])
 (.ret))
def r_spec_l1Cur__among : List ARes := [.tmp 4]
theorem ok_spec_l1Cur__among : FnOk Try.prog 77 12 c_spec_l1Cur__among r_spec_l1Cur__among := ⟨⟨Try.f77, _, Try.func77, by kernel_rfl, rfl, rfl, by kernel_rfl, by kernel_rfl⟩⟩
def c_spec_l1Cur__pick : ACode := .seq (.reg [⟨(some 4), .mv (.const (.int .i64 0)), none⟩])
 (.seq (.seq (.reg [⟨(some 6), .mv (.tmp 1), none⟩,
  ⟨(some 7), .bin .leq (.tmp 6) (.const (.int .i64 1)), none⟩])
 (.cond (.tmp 7) (.seq (.reg [⟨(some 4), .mv (.const (.int .i64 0)), none⟩])
 (.ret)) (.skip)))
 (.seq (.reg [⟨(some 8), .mv (.tmp 0), none⟩,
  ⟨(some 9), .call (.func 93) [(.tmp 8)], none⟩,
  ⟨(some 5), .mv (.tmp 9), none⟩])
 (.seq (.seq (.reg [⟨(some 10), .mv (.tmp 1), none⟩,
  ⟨(some 11), .bin .gtr (.tmp 10) (.const (.int .i64 200)), none⟩])
 (.cond (.tmp 11) (.reg [⟨(some 12), .mv (.tmp 5), none⟩,
  ⟨(some 13), .bin .mul (.tmp 12) (.const (.int .i64 256)), none⟩,
  ⟨(some 14), .mv (.tmp 0), none⟩,
  ⟨(some 15), .call (.func 93) [(.tmp 14)], none⟩,
  ⟨(some 16), .bin .add (.tmp 13) (.tmp 15), none⟩,
  ⟨(some 5), .mv (.tmp 16), none⟩]) (.skip)))
 (.seq (.reg [⟨(some 17), .mv (.tmp 5), none⟩,
  ⟨(some 18), .mv (.tmp 1), none⟩,
  ⟨(some 19), .bin .rem (.tmp 17) (.tmp 18), none⟩,
  ⟨(some 4), .mv (.tmp 19), none⟩])
 (.ret)))))
def r_spec_l1Cur__pick : List ARes := [.tmp 4]
theorem ok_spec_l1Cur__pick : FnOk Try.prog 80 20 c_spec_l1Cur__pick r_spec_l1Cur__pick := ⟨⟨Try.f80, _, Try.func80, by kernel_rfl, rfl, rfl, by kernel_rfl, by kernel_rfl⟩⟩
def c_spec_l1Cur__one : ACode := .seq (.reg [⟨(some 4), .mv (.const (.bool false)), none⟩])
 (.seq (.reg [⟨(some 5), .mv (.tmp 0), none⟩,
  ⟨(some 6), .mv (.tmp 1), none⟩,
  ⟨(some 7), .call (.func 80) [(.tmp 5), (.tmp 6)], none⟩,
  ⟨(some 8), .bin .eql (.tmp 7) (.const (.int .i64 0)), none⟩,
  ⟨(some 4), .mv (.tmp 8), none⟩])
 (.ret))
def r_spec_l1Cur__one : List ARes := [.tmp 4]
theorem ok_spec_l1Cur__one : FnOk Try.prog 83 9 c_spec_l1Cur__one r_spec_l1Cur__one := ⟨⟨Try.f83, _, Try.func83, by kernel_rfl, rfl, rfl, by kernel_rfl, by kernel_rfl⟩⟩
def c_spec_l1Cur__next : ACode := .seq (.reg [⟨(some 2), .mv (.const (.int .i64 0)), none⟩])
 (.seq (.reg [⟨(some 3), .mv (.const (.int .i64 0)), none⟩])
 (.seq (.seq (.reg [⟨(some 4), .mv (.tmp 0), none⟩,
  ⟨(some 5), .nilc (.tmp 4), none⟩,
  ⟨(some 6), .fad 1 (.tmp 5), none⟩,
  ⟨(some 7), .ld none (.tmp 6), none⟩,
  ⟨(some 8), .mv (.tmp 0), none⟩,
  ⟨(some 9), .nilc (.tmp 8), none⟩,
  ⟨(some 10), .fad 0 (.tmp 9), none⟩,
  ⟨(some 11), .ld none (.tmp 10), none⟩,
  ⟨(some 12), .len (.tmp 11), none⟩,
  ⟨(some 13), .bin .lss (.tmp 7) (.tmp 12), none⟩])
 (.cond (.tmp 13) (.reg [⟨(some 14), .mv (.tmp 0), none⟩,
  ⟨(some 15), .nilc (.tmp 14), none⟩,
  ⟨(some 16), .fad 0 (.tmp 15), none⟩,
  ⟨(some 17), .ld none (.tmp 16), none⟩,
  ⟨(some 18), .mv (.tmp 0), none⟩,
  ⟨(some 19), .nilc (.tmp 18), none⟩,
  ⟨(some 20), .fad 1 (.tmp 19), none⟩,
  ⟨(some 21), .ld none (.tmp 20), none⟩,
  ⟨(some 22), .iad 1 (.tmp 17) (.tmp 21), none⟩,
  ⟨(some 23), .ld none (.tmp 22), none⟩,
  ⟨(some 24), .conv .i64 (.tmp 23), none⟩,
  ⟨(some 3), .mv (.tmp 24), none⟩]) (.skip)))
 (.seq (.reg [⟨(some 25), .mv (.tmp 0), none⟩,
  ⟨(some 26), .nilc (.tmp 25), none⟩,
  ⟨(some 27), .fad 1 (.tmp 26), none⟩,
  ⟨(some 28), .ld none (.tmp 27), none⟩,
  ⟨(some 29), .bin .add (.tmp 28) (.const (.int .i64 1)), none⟩,
  ⟨(some 30), .nilc (.tmp 25), none⟩,
  ⟨(some 31), .fad 1 (.tmp 30), none⟩,
  ⟨none, .st 1 (.tmp 31) (.tmp 29), none⟩])
 (.seq (.reg [⟨(some 32), .mv (.tmp 0), none⟩,
  ⟨(some 33), .mv (.tmp 0), none⟩,
  ⟨(some 34), .nilc (.tmp 33), none⟩,
  ⟨(some 35), .fad 2 (.tmp 34), none⟩,
  ⟨(some 36), .ld none (.tmp 35), none⟩,
  ⟨(some 37), .bin .mul (.tmp 36) (.const (.int .u64 6364136223846793005)), none⟩,
  ⟨(some 38), .mv (.tmp 3), none⟩,
  ⟨(some 39), .conv .u64 (.tmp 38), none⟩,
  ⟨(some 40), .bin .add (.tmp 37) (.tmp 39), none⟩,
  ⟨(some 41), .bin .add (.tmp 40) (.const (.int .u64 462197)), none⟩,
  ⟨(some 42), .nilc (.tmp 32), none⟩,
  ⟨(some 43), .fad 2 (.tmp 42), none⟩,
  ⟨none, .st 1 (.tmp 43) (.tmp 41), none⟩])
 (.seq (.seq (.reg [⟨(some 44), .mv (.tmp 0), none⟩,
  ⟨(some 45), .nilc (.tmp 44), none⟩,
  ⟨(some 46), .fad 1 (.tmp 45), none⟩,
  ⟨(some 47), .ld none (.tmp 46), none⟩,
  ⟨(some 48), .mv (.tmp 0), none⟩,
  ⟨(some 49), .nilc (.tmp 48), none⟩,
  ⟨(some 50), .fad 0 (.tmp 49), none⟩,
  ⟨(some 51), .ld none (.tmp 50), none⟩,
  ⟨(some 52), .len (.tmp 51), none⟩,
  ⟨(some 53), .bin .leq (.tmp 47) (.tmp 52), none⟩])
 (.cond (.tmp 53) (.seq (.reg [⟨(some 54), .mv (.tmp 3), none⟩,
  ⟨(some 2), .mv (.tmp 54), none⟩])
 (.ret)) (.skip)))
 (.seq (.reg [⟨(some 55), .mv (.tmp 0), none⟩,
  ⟨(some 56), .nilc (.tmp 55), none⟩,
  ⟨(some 57), .fad 2 (.tmp 56), none⟩,
  ⟨(some 58), .ld none (.tmp 57), none⟩,
  ⟨(some 59), .bin .shr (.tmp 58) (.const (.int .u64 40)), none⟩,
  ⟨(some 60), .bin .and (.tmp 59) (.const (.int .u64 255)), none⟩,
  ⟨(some 61), .conv .i64 (.tmp 60), none⟩,
  ⟨(some 2), .mv (.tmp 61), none⟩])
 (.ret)))))))
def r_spec_l1Cur__next : List ARes := [.tmp 2]
theorem ok_spec_l1Cur__next : FnOk Try.prog 93 62 c_spec_l1Cur__next r_spec_l1Cur__next := ⟨⟨Try.f93, _, Try.func93, by kernel_rfl, rfl, rfl, by kernel_rfl, by kernel_rfl⟩⟩
end Go.Proofs.Ytpedjcagaeedjaa.Ab
end
section
namespace Go.Proofs.Ytpedjcagaeedjaa.Ab
open Go Go.RowKit
set_option linter.unusedVariables false
set_option linter.unusedSimpArgs false
structure CurA (M : Mem) (cb : Nat) (l : List Int) (id : Nat) (at_ : Nat) : Prop where
  code : M[cb]? = some ⟨.ro, 5, l.map (Value.int .u8)⟩
  byte : ∀ x ∈ l, 0 ≤ x ∧ x ≤ 255
  few : l.length ≤ 65536
  box : ∃ seed : Nat × Int, M[id]? = some ⟨.own, 59, [.slice (some ⟨cb, 0, none⟩) l.length seed.1, .int .i64 (at_ : Int), .int .u64 seed.2]⟩
structure Cw (id : Nat) (m M : Mem) : Prop where
  len : m.length ≤ M.length
  old : ∀ i, i ≠ id → i < m.length → M[i]? = m[i]?
  new : ∀ (i : Nat) (b : Blk), m.length ≤ i → M[i]? = some b → b.kd ≠ .ro
theorem Cw.refl (id : Nat) (m : Mem) : Cw id m m := ⟨Nat.le_refl _, fun _ _ _ => rfl, fun i b h1 h2 => by rw [List.getElem?_eq_none h1] at h2; cases h2⟩
theorem Cw.set (id : Nat) (m : Mem) (b : Blk) : Cw id m (m.set id b) :=
  ⟨by simp, fun i h _ => List.getElem?_set_ne (Ne.symm h), fun i b h1 h2 => by rw [List.getElem?_eq_none (by simpa using h1)] at h2; cases h2⟩
theorem Cw.trans {id : Nat} {A B C : Mem} (hid : id < A.length) (h : Cw id A B) (h' : Cw id B C) : Cw id A C :=
  ⟨Nat.le_trans h.len h'.len, fun i h1 h2 => (h'.old i h1 (Nat.lt_of_lt_of_le h2 h.len)).trans (h.old i h1 h2), fun i b h1 h2 => by
    by_cases hb : B.length ≤ i
    · exact h'.new i b hb h2
    · by_cases e : i = id
      · exact absurd e (fun e => by omega)
      · rw [h'.old i e (by omega)] at h2; exact h.new i b h1 h2⟩
theorem nilcC (a : Addr) : nilcA (.pointer (some a)) = some (.pointer (some a)) := rfl
theorem and255A (x : Int) : 0 ≤ IntKind.i64.wrap (IntKind.u64.wrap ((BitVec.ofInt IntKind.u64.bits x &&& BitVec.ofInt IntKind.u64.bits 255).toNat : Int)) ∧ IntKind.i64.wrap (IntKind.u64.wrap ((BitVec.ofInt IntKind.u64.bits x &&& BitVec.ofInt IntKind.u64.bits 255).toNat : Int)) ≤ 255 := by
  obtain ⟨y, hy⟩ : ∃ y, y = (BitVec.ofInt IntKind.u64.bits x &&& BitVec.ofInt IntKind.u64.bits 255).toNat := ⟨_, rfl⟩
  have hle : y ≤ 255 := by
    rw [hy, BitVec.toNat_and]
    refine Nat.le_trans Nat.and_le_right ?_
    decide
  rw [← hy]
  have e1 : IntKind.u64.wrap (y : Int) = (y : Int) := by
    rw [IntKind.wrap_u64]
    omega
  rw [e1, w64 ⟨by omega, by omega⟩]
  omega
abbrev curB (cb n fl : Nat) (a : Int) (seed : Int) : Blk := ⟨.own, 59, [.slice (some ⟨cb, 0, none⟩) n fl, .int .i64 a, .int .u64 seed]⟩
theorem cur_rd {M : Mem} {id cb n fl : Nat} {a seed : Int} (hb : M[id]? = some (curB cb n fl a seed)) : rdc M id 0 = some (.slice (some ⟨cb, 0, none⟩) n fl) ∧ rdc M id 1 = some (.int .i64 a) ∧ rdc M id 2 = some (.int .u64 seed) := by
  refine ⟨?_, ?_, ?_⟩ <;> (unfold rdc; rw [hb]; rfl)
theorem cur_set {M : Mem} {id cb n fl : Nat} {a seed : Int} (hb : M[id]? = some (curB cb n fl a seed)) (a' seed' : Int) : (M.set id (curB cb n fl a' seed'))[id]? = some (curB cb n fl a' seed') := by
  rw [List.getElem?_set_self (List.getElem?_eq_some_iff.1 hb).1]
theorem next_ac (M : Mem) (cb id at_ : Nat) (l : List Int) (h : CurA M cb l id at_) (ha : at_ ≤ 1000000000) :
    AC Try.prog 93 [.pointer (some ⟨id, 0, none⟩)] M fun r M' => ∃ x : Int, r = .int .i64 x ∧ 0 ≤ x ∧ x ≤ 255 ∧ Cw id M M' ∧ CurA M' cb l id (at_ + 1) := by
  refine ac_of_run mixed ok_spec_l1Cur__next (by simp) (go_start _ _ _ ?_)
  obtain ⟨⟨fl, seed⟩, hb⟩ := h.box
  obtain ⟨r0, r1, r2⟩ := cur_rd hb
  have st1 : stA M id 1 [.int .i64 ((at_ : Int) + 1)] = some (M.set id (curB cb l.length fl ((at_ : Int) + 1) seed)) := stA_at hb (by simp) rfl
  have hb1 := cur_set hb ((at_ : Int) + 1) seed
  obtain ⟨M1, hM1⟩ : ∃ M1, M1 = M.set id (curB cb l.length fl ((at_ : Int) + 1) seed) := ⟨_, rfl⟩
  rw [← hM1] at st1 hb1
  obtain ⟨p0, p1, p2⟩ := cur_rd hb1
  have st2 : ∀ E : Int, stA M1 id 2 [.int .u64 E] = some (M1.set id (curB cb l.length fl ((at_ : Int) + 1) E)) := fun E => stA_at hb1 (by simp) rfl
  have s0 : ∀ E : Int, rdc (M1.set id (curB cb l.length fl ((at_ : Int) + 1) E)) id 0 = some (.slice (some ⟨cb, 0, none⟩) l.length fl) := fun E => (cur_rd (cur_set hb1 _ E)).1
  have s1 : ∀ E : Int, rdc (M1.set id (curB cb l.length fl ((at_ : Int) + 1) E)) id 1 = some (.int .i64 ((at_ : Int) + 1)) := fun E => (cur_rd (cur_set hb1 _ E)).2.1
  have s2 : ∀ E : Int, rdc (M1.set id (curB cb l.length fl ((at_ : Int) + 1) E)) id 2 = some (.int .u64 E) := fun E => (cur_rd (cur_set hb1 _ E)).2.2
  have hne : cb ≠ id := fun e => by have := h.code; rw [e, hb] at this; cases this
  have fin : ∀ E : Int, Cw id M (M1.set id (curB cb l.length fl ((at_ : Int) + 1) E)) ∧ CurA (M1.set id (curB cb l.length fl ((at_ : Int) + 1) E)) cb l id (at_ + 1) := fun E => by
    rw [hM1, List.set_set]
    refine ⟨Cw.set _ _ _, ⟨by rw [List.getElem?_set_ne (Ne.symm hne)]; exact h.code, h.byte, h.few, (fl, E), ?_⟩⟩
    rw [List.getElem?_set_self (List.getElem?_eq_some_iff.1 hb).1]
    simp
  by_cases hlt : (at_ : Int) < l.length
  · have ia : iadA 1 (.slice (some ⟨cb, 0, none⟩) l.length fl) (.int .i64 (at_ : Int)) = some (.pointer (some ⟨cb, at_, none⟩)) := by
      have := iadA_in (id := cb) (off := 0) (n := l.length) (fl := fl) (sz := 1) (k := .i64) (j := at_) (by omega)
      simpa using this
    have hx := h.byte (l.getD at_ 0) (by rw [List.getD_eq_getElem?_getD, List.getElem?_eq_getElem (by omega)]; exact List.getElem_mem _)
    have rx : rdc M cb at_ = some (.int .u8 (l.getD at_ 0)) := by
      unfold rdc
      rw [h.code]
      simp [List.getD_eq_getElem?_getD, List.getElem?_eq_getElem (show at_ < l.length by omega)]
    have hle : (at_ : Int) + 1 ≤ l.length := by omega
    have w1 : IntKind.i64.wrap (l.getD at_ 0) = l.getD at_ 0 := w64 ⟨by omega, by omega⟩
    simp (config := {implicitDefEqProofs := false, maxDischargeDepth := 20}) (disch := first | omega | (simp only [lenE]; done) | (simp only [lenE]; omega) | rfl | (simp only [lenE, markR_len]; done) | (simp only [lenE, markR_len]; omega)) only [runE, mapE, listE, initT_5, initT_6, initT_7, initT_8, resV, oneV, binA, unA, reduceCtorEq, Nat.reduceEqDiff, Nat.reduceAdd, Nat.reduceLT, Nat.reduceLeDiff, Nat.reduceMul, Nat.reduceSub, ↓reduceIte, decide_true, decide_false, Bool.true_eq_false, Bool.false_eq_true, Bool.not_true, Bool.not_false, if_true, if_false, and_true, true_and, memE, celE, w64, Nat.zero_add, Nat.add_zero, Nat.mul_one, putL, and_self, ldn, c_spec_l1Cur__next, r_spec_l1Cur__next, nilcC, r0, r1, r2, hlt, ia, rx, st1, p0, p1, p2, st2, s0, s1, s2, hle, w1]
    exact ⟨_, rfl, hx.1, hx.2, fin _⟩
  · have hle : ¬ ((at_ : Int) + 1 ≤ l.length) := by omega
    have h40 : ¬ ((40 : Int) < 0) := by decide
    simp (config := {implicitDefEqProofs := false, maxDischargeDepth := 20}) (disch := first | omega | (simp only [lenE]; done) | (simp only [lenE]; omega) | rfl | (simp only [lenE, markR_len]; done) | (simp only [lenE, markR_len]; omega)) only [runE, mapE, listE, initT_5, initT_6, initT_7, initT_8, resV, oneV, binA, unA, reduceCtorEq, Nat.reduceEqDiff, Nat.reduceAdd, Nat.reduceLT, Nat.reduceLeDiff, Nat.reduceMul, Nat.reduceSub, ↓reduceIte, decide_true, decide_false, Bool.true_eq_false, Bool.false_eq_true, Bool.not_true, Bool.not_false, if_true, if_false, and_true, true_and, memE, celE, w64, Nat.zero_add, Nat.add_zero, Nat.mul_one, putL, and_self, ldn, c_spec_l1Cur__next, r_spec_l1Cur__next, nilcC, r0, r1, r2, hlt, st1, p0, p1, p2, st2, s0, s1, s2, hle, h40]
    exact ⟨_, rfl, (and255A _).1, (and255A _).2, fin _⟩
theorem CurA.lt {M : Mem} {cb id a : Nat} {l : List Int} (h : CurA M cb l id a) : id < M.length := by
  obtain ⟨seed, hb⟩ := h.box
  exact (List.getElem?_eq_some_iff.1 hb).1
theorem pick_ac (M : Mem) (cb id a : Nat) (l : List Int) (n : Int) (h : CurA M cb l id a) (ha : a ≤ 999999998) (h1 : 1 ≤ n) (h2 : n ≤ 65536) :
    AC Try.prog 80 [.pointer (some ⟨id, 0, none⟩), .int .i64 n] M fun r M' => ∃ x : Int, r = .int .i64 x ∧ 0 ≤ x ∧ x < n ∧ Cw id M M' ∧ ∃ a', a' ≤ a + 2 ∧ CurA M' cb l id a' := by
  refine ac_of_run mixed ok_spec_l1Cur__pick (by simp) (go_start _ _ _ ?_)
  by_cases hn : n ≤ 1
  · simp (config := {implicitDefEqProofs := false, maxDischargeDepth := 20}) (disch := first | omega | (simp only [lenE]; done) | (simp only [lenE]; omega) | rfl | (simp only [lenE, markR_len]; done) | (simp only [lenE, markR_len]; omega)) only [runE, mapE, listE, initT_5, initT_6, initT_7, initT_8, resV, oneV, binA, unA, reduceCtorEq, Nat.reduceEqDiff, Nat.reduceAdd, Nat.reduceLT, Nat.reduceLeDiff, Nat.reduceMul, Nat.reduceSub, ↓reduceIte, decide_true, decide_false, Bool.true_eq_false, Bool.false_eq_true, Bool.not_true, Bool.not_false, if_true, if_false, and_true, true_and, memE, celE, w64, Nat.zero_add, Nat.add_zero, Nat.mul_one, putL, and_self, ldn, c_spec_l1Cur__pick, r_spec_l1Cur__pick, hn]
    exact ⟨0, rfl, by omega, by omega, Cw.refl _ _, a, by omega, h⟩
  · simp (config := {implicitDefEqProofs := false, maxDischargeDepth := 20}) (disch := first | omega | (simp only [lenE]; done) | (simp only [lenE]; omega) | rfl | (simp only [lenE, markR_len]; done) | (simp only [lenE, markR_len]; omega)) only [runE, mapE, listE, initT_5, initT_6, initT_7, initT_8, resV, oneV, binA, unA, reduceCtorEq, Nat.reduceEqDiff, Nat.reduceAdd, Nat.reduceLT, Nat.reduceLeDiff, Nat.reduceMul, Nat.reduceSub, ↓reduceIte, decide_true, decide_false, Bool.true_eq_false, Bool.false_eq_true, Bool.not_true, Bool.not_false, if_true, if_false, and_true, true_and, memE, celE, w64, Nat.zero_add, Nat.add_zero, Nat.mul_one, putL, and_self, ldn, c_spec_l1Cur__pick, r_spec_l1Cur__pick, hn]
    refine callH_ac (next_ac M cb id a l h (by omega)) ?_
    rintro r M1 ⟨x, rfl, x0, x1, w1, k1⟩
    have hn0 : ¬ (n = 0) := by omega
    by_cases hb : n > 200
    · simp (config := {implicitDefEqProofs := false, maxDischargeDepth := 20}) (disch := first | omega | (simp only [lenE]; done) | (simp only [lenE]; omega) | rfl | (simp only [lenE, markR_len]; done) | (simp only [lenE, markR_len]; omega)) only [runE, mapE, listE, initT_5, initT_6, initT_7, initT_8, resV, oneV, binA, unA, reduceCtorEq, Nat.reduceEqDiff, Nat.reduceAdd, Nat.reduceLT, Nat.reduceLeDiff, Nat.reduceMul, Nat.reduceSub, ↓reduceIte, decide_true, decide_false, Bool.true_eq_false, Bool.false_eq_true, Bool.not_true, Bool.not_false, if_true, if_false, and_true, true_and, memE, celE, w64, Nat.zero_add, Nat.add_zero, Nat.mul_one, putL, and_self, ldn, hb]
      refine callH_ac (next_ac M1 cb id (a + 1) l k1 (by omega)) ?_
      rintro r M2 ⟨y, rfl, y0, y1, w2, k2⟩
      have e1 : IntKind.i64.wrap (x * 256) = x * 256 := w64 ⟨by omega, by omega⟩
      have e2 : IntKind.i64.wrap (x * 256 + y) = x * 256 + y := w64 ⟨by omega, by omega⟩
      simp (config := {implicitDefEqProofs := false, maxDischargeDepth := 20}) (disch := first | omega | (simp only [lenE]; done) | (simp only [lenE]; omega) | rfl | (simp only [lenE, markR_len]; done) | (simp only [lenE, markR_len]; omega)) only [runE, mapE, listE, initT_5, initT_6, initT_7, initT_8, resV, oneV, binA, unA, reduceCtorEq, Nat.reduceEqDiff, Nat.reduceAdd, Nat.reduceLT, Nat.reduceLeDiff, Nat.reduceMul, Nat.reduceSub, ↓reduceIte, decide_true, decide_false, Bool.true_eq_false, Bool.false_eq_true, Bool.not_true, Bool.not_false, if_true, if_false, and_true, true_and, memE, celE, w64, Nat.zero_add, Nat.add_zero, Nat.mul_one, putL, and_self, ldn, e1, e2, hn0]
      exact ⟨_, rfl, Int.tmod_nonneg _ (by omega), Int.tmod_lt_of_pos _ (by omega), w1.trans h.lt w2, a + 1 + 1, by omega, k2⟩
    · simp (config := {implicitDefEqProofs := false, maxDischargeDepth := 20}) (disch := first | omega | (simp only [lenE]; done) | (simp only [lenE]; omega) | rfl | (simp only [lenE, markR_len]; done) | (simp only [lenE, markR_len]; omega)) only [runE, mapE, listE, initT_5, initT_6, initT_7, initT_8, resV, oneV, binA, unA, reduceCtorEq, Nat.reduceEqDiff, Nat.reduceAdd, Nat.reduceLT, Nat.reduceLeDiff, Nat.reduceMul, Nat.reduceSub, ↓reduceIte, decide_true, decide_false, Bool.true_eq_false, Bool.false_eq_true, Bool.not_true, Bool.not_false, if_true, if_false, and_true, true_and, memE, celE, w64, Nat.zero_add, Nat.add_zero, Nat.mul_one, putL, and_self, ldn, hb, hn0]
      exact ⟨_, rfl, Int.tmod_nonneg _ (by omega), Int.tmod_lt_of_pos _ (by omega), w1, a + 1, by omega, k1⟩
theorem one_ac (M : Mem) (cb id a : Nat) (l : List Int) (n : Int) (h : CurA M cb l id a) (ha : a ≤ 999999998) (h1 : 1 ≤ n) (h2 : n ≤ 65536) :
    AC Try.prog 83 [.pointer (some ⟨id, 0, none⟩), .int .i64 n] M fun r M' => ∃ b : Bool, r = .bool b ∧ Cw id M M' ∧ ∃ a', a' ≤ a + 2 ∧ CurA M' cb l id a' := by
  refine ac_of_run mixed ok_spec_l1Cur__one (by simp) (go_start _ _ _ ?_)
  simp (config := {implicitDefEqProofs := false, maxDischargeDepth := 20}) (disch := first | omega | (simp only [lenE]; done) | (simp only [lenE]; omega) | rfl | (simp only [lenE, markR_len]; done) | (simp only [lenE, markR_len]; omega)) only [runE, mapE, listE, initT_5, initT_6, initT_7, initT_8, resV, oneV, binA, unA, reduceCtorEq, Nat.reduceEqDiff, Nat.reduceAdd, Nat.reduceLT, Nat.reduceLeDiff, Nat.reduceMul, Nat.reduceSub, ↓reduceIte, decide_true, decide_false, Bool.true_eq_false, Bool.false_eq_true, Bool.not_true, Bool.not_false, if_true, if_false, and_true, true_and, memE, celE, w64, Nat.zero_add, Nat.add_zero, Nat.mul_one, putL, and_self, ldn, c_spec_l1Cur__one, r_spec_l1Cur__one]
  refine callH_ac (pick_ac M cb id a l n h ha h1 h2) ?_
  rintro r M1 ⟨x, rfl, x0, x1, w1, k1⟩
  simp (config := {implicitDefEqProofs := false, maxDischargeDepth := 20}) (disch := first | omega | (simp only [lenE]; done) | (simp only [lenE]; omega) | rfl | (simp only [lenE, markR_len]; done) | (simp only [lenE, markR_len]; omega)) only [runE, mapE, listE, initT_5, initT_6, initT_7, initT_8, resV, oneV, binA, unA, reduceCtorEq, Nat.reduceEqDiff, Nat.reduceAdd, Nat.reduceLT, Nat.reduceLeDiff, Nat.reduceMul, Nat.reduceSub, ↓reduceIte, decide_true, decide_false, Bool.true_eq_false, Bool.false_eq_true, Bool.not_true, Bool.not_false, if_true, if_false, and_true, true_and, memE, celE, w64, Nat.zero_add, Nat.add_zero, Nat.mul_one, putL, and_self, ldn]
  exact ⟨_, rfl, w1, k1⟩
theorem among_ac (M : Mem) (cb id a : Nat) (l : List Int) (u : Value) (xs : List Int) (h : CurA M cb l id a) (ha : a ≤ 999999998) (h0 : IntsA M u xs) (hk : ∀ M', Cw id M M' → IntsA M' u xs) (h1 : 1 ≤ xs.length) (h2 : xs.length ≤ 1000) :
    AC Try.prog 77 [.pointer (some ⟨id, 0, none⟩), u] M fun r M' => ∃ x ∈ xs, r = .int .i64 x ∧ Cw id M M' ∧ ∃ a', a' ≤ a + 2 ∧ CurA M' cb l id a' := by
  refine ac_of_run mixed ok_spec_l1Cur__among (by simp) (go_start _ _ _ ?_)
  simp (config := {implicitDefEqProofs := false, maxDischargeDepth := 20}) (disch := first | omega | (simp only [lenE]; done) | (simp only [lenE]; omega) | rfl | (simp only [lenE, markR_len]; done) | (simp only [lenE, markR_len]; omega)) only [runE, mapE, listE, initT_5, initT_6, initT_7, initT_8, resV, oneV, binA, unA, reduceCtorEq, Nat.reduceEqDiff, Nat.reduceAdd, Nat.reduceLT, Nat.reduceLeDiff, Nat.reduceMul, Nat.reduceSub, ↓reduceIte, decide_true, decide_false, Bool.true_eq_false, Bool.false_eq_true, Bool.not_true, Bool.not_false, if_true, if_false, and_true, true_and, memE, celE, w64, Nat.zero_add, Nat.add_zero, Nat.mul_one, putL, and_self, ldn, c_spec_l1Cur__among, r_spec_l1Cur__among, h0.len]
  refine callH_ac (pick_ac M cb id a l (xs.length : Int) h ha (by omega) (by omega)) ?_
  rintro r M1 ⟨x, rfl, x0, x1, w1, k1⟩
  obtain ⟨j, rfl⟩ : ∃ j : Nat, x = (j : Int) := ⟨x.toNat, by omega⟩
  have i1 := hk M1 w1
  simp (config := {implicitDefEqProofs := false, maxDischargeDepth := 20}) (disch := first | omega | (simp only [lenE]; done) | (simp only [lenE]; omega) | rfl | (simp only [lenE, markR_len]; done) | (simp only [lenE, markR_len]; omega)) only [runE, mapE, listE, initT_5, initT_6, initT_7, initT_8, resV, oneV, binA, unA, reduceCtorEq, Nat.reduceEqDiff, Nat.reduceAdd, Nat.reduceLT, Nat.reduceLeDiff, Nat.reduceMul, Nat.reduceSub, ↓reduceIte, decide_true, decide_false, Bool.true_eq_false, Bool.false_eq_true, Bool.not_true, Bool.not_false, if_true, if_false, and_true, true_and, memE, celE, w64, Nat.zero_add, Nat.add_zero, Nat.mul_one, putL, and_self, ldn, i1.at_ j (by omega), i1.ld j (by omega)]
  refine ⟨xs.getD j 0, ?_, rfl, w1, k1⟩
  rw [List.getD_eq_getElem?_getD, List.getElem?_eq_getElem (by omega)]
  exact List.getElem_mem _
theorem Cw.own {id b : Nat} {M M' : Mem} {xs : List Int} (h : Cw id M M') (ho : OwnR M b xs) (hne : b ≠ id) : OwnR M' b xs := (h.old b hne ho.lt).trans ho
end Go.Proofs.Ytpedjcagaeedjaa.Ab
end
section
namespace Go.Proofs.Ytpedjcagaeedjaa
open Go.RowKit
def Rd (w : World) (B : Nat) (A : Option Addr) (xs : List Value) : Prop :=
  0 < xs.length → ∃ b off, A = some ⟨b, off, none⟩ ∧ b < B ∧ ∀ (k : Nat) (u : Value), xs[k]? = some u → w.cell? ⟨b, off + k, none⟩ = some u

theorem Rd.at_ {w : World} {B : Nat} {A : Option Addr} {xs : List Value} (h : Rd w B A xs) {k : Nat} {u : Value} (hk : xs[k]? = some u) :
    ∃ b off, A = some ⟨b, off, none⟩ ∧ b < B ∧ w.cell? ⟨b, off + k, none⟩ = some u := by
  obtain ⟨hl, _⟩ := List.getElem?_eq_some_iff.1 hk
  obtain ⟨b, off, e, hb, hc⟩ := h (by omega)
  exact ⟨b, off, e, hb, hc k u hk⟩
theorem Rd.nil (w : World) (B : Nat) (A : Option Addr) : Rd w B A [] := fun h => absurd h (by simp)
theorem Rd.keep {w w' : World} {B : Nat} {A : Option Addr} {xs : List Value} (h : Rd w B A xs) (hk : ∀ p : Addr, p.block < B → w'.cell? p = w.cell? p) : Rd w' B A xs := by
  intro hl
  obtain ⟨b, off, e, hb, hc⟩ := h hl
  exact ⟨b, off, e, hb, fun k u hu => (hk ⟨b, off + k, none⟩ hb).trans (hc k u hu)⟩
theorem Rd.below {w w' : World} {B : Nat} {A : Option Addr} {xs : List Value} (h : Rd w B A xs) (hb : Below B w w') : Rd w' B A xs :=
  h.keep fun _ hp => hb.cell hp
theorem Rd.drewN {w : World} {B : Nat} {A : Option Addr} {xs : List Value} (h : Rd w B A xs) (n : Nat) : Rd (w.drewN n) B A xs := h
theorem Rd.more {w : World} {B B' : Nat} {A : Option Addr} {xs : List Value} (h : Rd w B A xs) (hB : B ≤ B') : Rd w B' A xs := by
  intro hl
  obtain ⟨b, off, e, hb, hc⟩ := h hl
  exact ⟨b, off, e, by omega, hc⟩
theorem Rd.own {w : World} {base : Nat} {e : TypeId} {A : Option Addr} {n c : Nat} {xs : List Value} (h : w.ownsRow base e 1 (.slice A n c) n xs) : Rd w w.heap.size A xs := by
  intro hl
  obtain ⟨hn, h2⟩ := h
  rcases h2 with ⟨h0, rfl⟩ | ⟨g, cap, cur, hv, hb, hg, _, _, _, ht⟩
  · omega
  · simp only [Value.slice.injEq] at hv
    obtain ⟨rfl, _, _⟩ := hv
    refine ⟨g, 0, rfl, (Array.getElem?_eq_some_iff.1 hg).1, fun k u hu => ?_⟩
    rw [Nat.zero_add, cell_of_row w g k cur e (0, 0) hg]
    rw [← ht, List.getElem?_take] at hu
    split at hu
    · simpa using hu
    · cases hu
theorem below_drewN (B : Nat) (w : World) (n : Nat) : Below B w (w.drewN n) := ⟨rfl, rfl, rfl, Nat.le_refl _, fun _ _ => rfl⟩
def Drew (w w' : World) : Prop := ∃ n, w' = w.drewN n
theorem Drew.refl (w : World) : Drew w w := ⟨0, rfl⟩
theorem Drew.step {w w' : World} (h : Drew w w') (n : Nat) : Drew w (w'.drewN n) := by
  obtain ⟨k, rfl⟩ := h; exact ⟨k + n, by rw [World.drewN_drewN]⟩
theorem Drew.trans {w w' w2 : World} (h : Drew w w') (h2 : Drew w' w2) : Drew w w2 := by
  obtain ⟨k, rfl⟩ := h2; exact h.step k
theorem Drew.cell {w w' : World} (h : Drew w w') (p : Addr) : w'.cell? p = w.cell? p := by
  obtain ⟨k, rfl⟩ := h; rfl
theorem Drew.size {w w' : World} (h : Drew w w') : w'.heap.size = w.heap.size := by
  obtain ⟨k, rfl⟩ := h; rfl
theorem Drew.below {w w' : World} (h : Drew w w') (B : Nat) : Below B w w' := by
  obtain ⟨k, rfl⟩ := h; exact below_drewN B w k
theorem Drew.own {w w' : World} (h : Drew w w') {base : Nat} {e : TypeId} {size n : Nat} {v : Value} {xs : List Value} (ho : w.ownsRow base e size v n xs) : w'.ownsRow base e size v n xs := by
  obtain ⟨k, rfl⟩ := h; exact ho
end Go.Proofs.Ytpedjcagaeedjaa
end
section
namespace Go.Proofs.Ytpedjcagaeedjaa
open Go.RowKit
set_option linter.unusedVariables false
structure Kept (lo hi : Nat) (w w' : World) : Prop where
  os : w'.os = w.os
  tape : w'.tape = w.tape
  output : w'.output = w.output
  size : w.heap.size ≤ w'.heap.size
  block : ∀ k, k < w.heap.size → (k < lo ∨ hi ≤ k) → w'.heap[k]? = w.heap[k]?
theorem Kept.refl (lo hi : Nat) (w : World) : Kept lo hi w w := ⟨rfl, rfl, rfl, Nat.le_refl _, fun _ _ _ => rfl⟩
theorem Kept.trans {lo hi : Nat} {a b c : World} (h : Kept lo hi a b) (h2 : Kept lo hi b c) : Kept lo hi a c :=
  ⟨h2.os.trans h.os, h2.tape.trans h.tape, h2.output.trans h.output, Nat.le_trans h.size h2.size, fun k hk hr => (h2.block k (Nat.lt_of_lt_of_le hk h.size) hr).trans (h.block k hk hr)⟩
theorem Kept.below {lo hi B : Nat} {w w' : World} (h : Kept lo hi w w') (h1 : B ≤ lo) (h2 : B ≤ w.heap.size) : Below B w w' :=
  ⟨h.os, h.tape, h.output, h.size, fun k hk => h.block k (by omega) (.inl (by omega))⟩
theorem Kept.set {lo hi : Nat} {w : World} {b off : Nat} (h1 : lo ≤ b) (h2 : b < hi) (v : Value) : Kept lo hi w (w.setCell ⟨b, off, none⟩ v) := by
  have h0 := (Below.refl lo w).setCell (p := ⟨b, off, none⟩) h1 v
  exact ⟨h0.os, h0.tape, h0.output, h0.size, fun k hk hr => Below.heap_setCell w _ v k (by show k ≠ b; omega)⟩

def IntsIn (w : World) (v : Value) (l : List Int) : Prop :=
  ∃ A c, v = .slice A l.length c ∧ l.length ≤ c ∧ c ≤ maxLen ∧ Rd w w.heap.size A (l.map (Value.int .i64))
theorem IntsIn.below {w w' : World} {v : Value} {l : List Int} (h : IntsIn w v l) (hb : Below w.heap.size w w') : IntsIn w' v l := by
  obtain ⟨A, c, h1, h2, h3, h4⟩ := h
  exact ⟨A, c, h1, h2, h3, (h4.below hb).more hb.size⟩
theorem IntsIn.nil (w : World) (c : Nat) (A : Option Addr) (h : c ≤ maxLen) : IntsIn w (.slice A 0 c) [] := ⟨A, c, rfl, Nat.zero_le _, h, Rd.nil _ _ _⟩

def OwnInts (w : World) (lo hi : Nat) (v : Value) (l : List Int) : Prop :=
  w.ownsRow lo 3 1 v l.length (l.map (Value.int .i64)) ∧ ∀ g, v.ownBlock = some g → g < hi
theorem OwnInts.form {w : World} {lo hi : Nat} {v : Value} {l : List Int} (h : OwnInts w lo hi v l) :
    ∃ A c, v = .slice A l.length c ∧ l.length ≤ c ∧ c ≤ maxLen := by
  rcases h.1.2 with ⟨rfl, h0⟩ | ⟨g, cap, cur, rfl, _, _, h1, h2, _⟩
  · exact ⟨none, 0, by rw [h0], by omega, Nat.zero_le _⟩
  · exact ⟨_, _, rfl, h1, h2⟩
theorem OwnInts.ints {w : World} {lo hi : Nat} {v : Value} {l : List Int} (h : OwnInts w lo hi v l) : IntsIn w v l := by
  obtain ⟨A, c, rfl, h1, h2⟩ := h.form
  exact ⟨A, c, rfl, h1, h2, Rd.own h.1⟩
theorem own_rest {w w' : World} {base : Nat} {e : TypeId} {size n : Nat} {v : Value} {xs : List Value} (h : w.ownsRow base e size v n xs) (hb : ∀ g, v.ownBlock = some g → w'.heap[g]? = w.heap[g]?) : w'.ownsRow base e size v n xs := by
  refine ⟨h.1, ?_⟩
  rcases h.2 with hn | ⟨g, cap, cur, rfl, hbg, hgg, rest⟩
  · exact .inl hn
  · exact .inr ⟨g, cap, cur, rfl, hbg, (hb g rfl).trans hgg, rest⟩
theorem own_block {w : World} {base : Nat} {e : TypeId} {size n : Nat} {v : Value} {xs : List Value} (h : w.ownsRow base e size v n xs) : ∀ g, v.ownBlock = some g → base ≤ g ∧ g < w.heap.size := by
  intro k hk
  rcases h.2 with ⟨rfl, rfl⟩ | ⟨g, cap, cur, rfl, hb, hg, _⟩
  · cases hk
  · simp only [Value.ownBlock, Option.some.injEq] at hk
    subst hk
    exact ⟨hb, (Array.getElem?_eq_some_iff.1 hg).1⟩
theorem OwnInts.below {w w' : World} {lo hi B : Nat} {v : Value} {l : List Int} (h : OwnInts w lo hi v l) (hb : Below B w w') (hd : hi ≤ B) : OwnInts w' lo hi v l :=
  ⟨own_rest h.1 fun g hg => by
    have h2 := h.2 g hg
    exact hb.block g (by omega), h.2⟩
theorem OwnInts.now {w : World} {lo : Nat} {v : Value} {l : List Int} (h : w.ownsRow lo 3 1 v l.length (l.map (Value.int .i64))) : OwnInts w lo w.heap.size v l :=
  ⟨h, fun g hg => (own_block h g hg).2⟩
end Go.Proofs.Ytpedjcagaeedjaa
end
section
namespace Go.Proofs.Ytpedjcagaeedjaa
open Go.ChangeShapes Go.WideShapes Go.ChangeAt Go.RowKit
set_option linter.unusedVariables false
theorem own : ownKnob Try.prog.godebug = none := by kernel_rfl
theorem laidOut : laidOutB Try.prog = true := by kernel_rfl

theorem trodAll_below {H : Type} {enc : TypeId × Value → H} {P : Program} (hl : laidOutB P = true) {W W' : World} (hb : Below W.heap.size W W') :
    ∀ {ts : List TypeId} {vs : List Value} {ds : List (DataW H)} {ps : List MemPlace}, ts.all (fun t => P.readableRec t && decide (t < P.types.size)) = true →
      (∀ x ∈ ps, x.block < W.heap.size) → DataW.TrodAll enc P W 0 (fun _ => true) true ts vs ds ps →
      DataW.TrodAll enc P W' 0 (fun b => decide (b < W.heap.size)) true ts vs ds ps
  | [], [], [], ps, _, _, h => h
  | t :: ts, v :: vs, d :: ds, ps, hr, hp, h => by
    obtain ⟨p, q, h1, h2, rfl⟩ := h
    simp only [List.all_cons, Bool.and_eq_true, decide_eq_true_eq] at hr
    exact ⟨p, q, Below.trod hl hr.1.1 hr.1.2 h1 hb (fun x hx => hp x (by simp [hx])),
      trodAll_below hl hb hr.2 (fun x hx => hp x (by simp [hx])) h2, rfl⟩
  | [], _ :: _, _, _, _, _, h => h.elim
  | [], [], _ :: _, _, _, _, h => h.elim
  | _ :: _, [], _, _, _, _, h => h.elim
  | _ :: _, _ :: _, [], _, _, _, h => h.elim

theorem trodAll_len {H : Type} {enc : TypeId × Value → H} {P : Program} {W : World} {base : Nat} {sp : Nat → Bool} {hd : Bool} :
    ∀ {ts : List TypeId} {vs : List Value} {ds : List (DataW H)} {ps : List MemPlace}, DataW.TrodAll enc P W base sp hd ts vs ds ps → ds.length = ts.length
  | [], [], [], _, _ => rfl
  | _ :: _, _ :: _, _ :: _, _, h => by
    obtain ⟨_, _, _, h2, _⟩ := h
    simp [trodAll_len h2]
  | [], _ :: _, _, _, h => h.elim
  | [], [], _ :: _, _, h => h.elim
  | _ :: _, [], _, _, h => h.elim
  | _ :: _, _ :: _, [], _, h => h.elim

theorem law_post {H : Type} {enc : TypeId × Value → H} {P : Program} {f : Func} {s : ChangeSpec} {W W' : World} {args : Array Value} {ds gs : List (DataW H)} {before : List MemPlace} {tb : TypeId}
    (hl : laidOutB P = true) (hr : f.params.toList.all (fun t => P.readableRec t && decide (t < P.types.size)) = true)
    (hres : f.resultTypes = #[tb]) (htb : P.underlying tb = some .bool) (hv : s.vars = [])
    (hfn : ∀ xs : List (DataW H), xs.length = f.params.toList.length → s.fn H xs = { results := [.lit (.bool true)], args := xs })
    (hW : DataW.Whole enc P f.params.toList s.vars false W args.toList ds gs before) (hb : Below W.heap.size W W') :
    s.post enc P f false true false false W args (.bool true) W' := by
  have hW' := hW
  obtain ⟨p, q, hA, hV, rfl, hfz, hnd⟩ := hW
  rw [hv] at hV
  obtain ⟨rfl, rfl⟩ := trodVars_none hV
  have hlen := trodAll_len hA
  have hlt : ∀ x ∈ p, x.block < W.heap.size := fun x hx => by simpa using hW'.lt x (by simp [hx])
  have e : s.fn H (ds ++ []) = { results := [.lit (.bool true)], args := ds } := by rw [List.append_nil]; exact hfn ds hlen
  refine ⟨ds, [], p ++ [], [], p, [], hW', ?_, ?_, ?_, hb.frame _, fun h => by cases h⟩
  · rw [e, hres]; exact trodAll_mk1 (shut_bool htb _)
  · rw [e]; exact trodAll_below hl hb hr hlt hA
  · rw [e, hv]; exact rfl
end Go.Proofs.Ytpedjcagaeedjaa
end
section
namespace Go.Proofs.Ytpedjcagaeedjaa
open Go.ChangeShapes Go.WideShapes Go.ChangeAt Go.RowKit
open Go.WideMaps Go.WideElems
set_option linter.unusedVariables false
theorem cell_block {w : World} {p : Addr} {v : Value} (h : w.cell? p = some v) : p.block < w.heap.size := by
  rcases Nat.lt_or_ge p.block w.heap.size with hlt | hge
  · exact hlt
  · have hn : w.heap[p.block]? = none := Array.getElem?_eq_none hge
    simp [World.cell?, hn] at h

theorem rd_of {w : World} {a : Addr} {xs : List Value} (h : ∀ (i : Nat) (u : Value), xs[i]? = some u → w.cell? (a.add i) = some u) : Rd w w.heap.size (some a) xs := by
  intro hl
  obtain ⟨b, off, spot⟩ := a
  have h0 := h 0 _ (List.getElem?_eq_getElem hl)
  have hspot : spot = none := by simpa [Addr.add] using World.cell?_spot h0
  subst hspot
  exact ⟨b, off, rfl, cell_block h0, fun k u hu => by rw [← Go.WideShapes.add_plain]; exact h k u hu⟩

end Go.Proofs.Ytpedjcagaeedjaa
end
section
namespace Go.Proofs.Ytpedjcagaeedjaa
open Go.RowKit Go.ChangeShapes
open Go.WideMaps Go.WideElems Go.WideShapes Go.ChangeAt
set_option linter.unusedVariables false
theorem open_ints_rd {H : Type} {enc : TypeId × Value → H} {P : Program} {W : World} {base : Nat} {t e : TypeId} {k : IntKind} {v : Value} {d : DataW H} {ps : List MemPlace}
    (ht : P.underlying t = some (.slice e)) (he : P.underlying e = some (.int k)) (hc : P.cellsOf e = 1)
    (hval : Value.okWide P W .any base t v) (h : DataW.Trod enc P W 0 (fun _ => true) true t v d ps) :
    ∃ (A : Option Addr) (l : List Int) (c : Nat), v = .slice A l.length c ∧ Rd W W.heap.size A (l.map (Value.int k)) ∧ l.length ≤ c ∧ c ≤ maxLen ∧ ∀ n ∈ l, k.min ≤ n ∧ n ≤ k.max := by
  obtain ⟨a0, len, cap, rfl⟩ := okWide_slice ht hval
  obtain ⟨fuel, hf⟩ := h
  rcases Go.ChangeShapes.open_ints ht he hc hf with ⟨hcs, _⟩ | ⟨a, len', cap', zs, hcs, _, hl, hm, hz, _, hcell, hwf⟩
  · simp [Value.cells] at hcs
    obtain ⟨rfl, rfl, rfl⟩ := hcs
    exact ⟨none, [], 0, rfl, Rd.nil _ _ _, Nat.le_refl _, Nat.zero_le _, fun s hs => by cases hs⟩
  · simp [Value.cells] at hcs
    obtain ⟨rfl, rfl, rfl⟩ := hcs
    simp only [if_true] at hz
    have hlen : (zs.take len).length = len := by rw [List.length_take]; omega
    refine ⟨some a, zs.take len, cap, by rw [hlen], rd_of fun i u hu => ?_, by rw [hlen]; exact hl, hm, fun s hs => by
      have := hwf s (List.mem_of_mem_take hs)
      simpa [Lit.wf] using this⟩
    rw [List.getElem?_map, List.getElem?_take] at hu
    by_cases hi : i < len
    · rw [if_pos hi] at hu
      have hi2 : i < zs.length := by omega
      rw [hcell i hi2]
      rw [List.getElem?_eq_getElem hi2] at hu
      rw [List.getD_eq_getElem?_getD, List.getElem?_eq_getElem hi2]
      simpa using hu
    · rw [if_neg hi] at hu; cases hu
end Go.Proofs.Ytpedjcagaeedjaa
end
section
namespace Go.Proofs.Ytpedjcagaeedjaa
open Go.RowKit Go.ChangeShapes Go.WideShapes Go.ChangeAt
open Go.WideMaps Go.WideElems
set_option linter.unusedVariables false
def CaseIn (w : World) (v : Value) (k : Cs) : Prop :=
  ∃ v1 v2 v3 v4, v = .agg #[v1, v2, v3, v4] ∧ IntsIn w v1 k.need ∧ IntsIn w v2 k.setup ∧ IntsIn w v3 k.unit ∧ IntsIn w v4 k.hold
theorem CaseIn.below {w w' : World} {v : Value} {k : Cs} (h : CaseIn w v k) (hb : Below w.heap.size w w') : CaseIn w' v k := by
  obtain ⟨v1, v2, v3, v4, h0, h1, h2, h3, h4⟩ := h
  exact ⟨v1, v2, v3, v4, h0, h1.below hb, h2.below hb, h3.below hb, h4.below hb⟩
def OwnCase (w : World) (lo hi : Nat) (v : Value) (k : Cs) : Prop :=
  ∃ v1 v2 v3 v4 m1 m2 m3, v = .agg #[v1, v2, v3, v4] ∧ lo ≤ m1 ∧ m1 ≤ m2 ∧ m2 ≤ m3 ∧ m3 ≤ hi ∧ OwnInts w lo m1 v1 k.need ∧ OwnInts w m1 m2 v2 k.setup ∧ OwnInts w m2 m3 v3 k.unit ∧ OwnInts w m3 hi v4 k.hold
theorem OwnCase.ints {w : World} {lo hi : Nat} {v : Value} {k : Cs} (h : OwnCase w lo hi v k) : CaseIn w v k := by
  obtain ⟨v1, v2, v3, v4, m1, m2, m3, h0, _, _, _, _, h1, h2, h3, h4⟩ := h
  exact ⟨v1, v2, v3, v4, h0, h1.ints, h2.ints, h3.ints, h4.ints⟩
theorem OwnCase.below {w w' : World} {lo hi B : Nat} {v : Value} {k : Cs} (h : OwnCase w lo hi v k) (hb : Below B w w') (hd : hi ≤ B) : OwnCase w' lo hi v k := by
  obtain ⟨v1, v2, v3, v4, m1, m2, m3, h0, a, b, c, d, h1, h2, h3, h4⟩ := h
  exact ⟨v1, v2, v3, v4, m1, m2, m3, h0, a, b, c, d, h1.below hb (by omega), h2.below hb (by omega), h3.below hb (by omega), h4.below hb (by omega)⟩
theorem OwnCase.le {w : World} {lo hi : Nat} {v : Value} {k : Cs} (h : OwnCase w lo hi v k) : lo ≤ hi := by
  obtain ⟨v1, v2, v3, v4, m1, m2, m3, h0, a, b, c, d, _⟩ := h
  omega

end Go.Proofs.Ytpedjcagaeedjaa
end
section
namespace Go.Proofs.Ytpedjcagaeedjaa.Ab
open Go Go.RowKit
set_option linter.unusedVariables false
set_option linter.unusedSimpArgs false
theorem tab_none {base : Nat} {W : World} (h : tabB = none) : TabOk base W := fun g vs hg => by rw [h] at hg; cases hg
theorem MRel.start (W : World) (ht : TabOk W.heap.size W := by exact tab_none rfl) : MRel W W.heap.size [] [] W :=
  ⟨rfl, Below.refl _ _, Nat.le_refl _, fun id e xs h => by simp at h, fun id e xs h => by simp at h, fun i j e1 e2 xs ys b1 o1 t1 b2 o2 t2 hij h => by simp at h, ⟨fun id e es h => by simp at h, fun i j e1 e2 xs ys b1 o1 t1 b2 o2 t2 hij h => by simp at h⟩, Oth.refl _, ht⟩
theorem MRel.addRo {W0 : World} {base : Nat} {ρ : Places} {m : Mem} {w : World} (h : MRel W0 base ρ m w) {e : TypeId} {xs : List Value} {b o tot : Nat}
    (hg : ∀ (k : Nat) (x : Value), xs[k]? = some x → b < base ∧ ∃ y, w.cell? ⟨b, o + k, none⟩ = some y ∧ VR ρ x y) : MRel W0 base (ρ ++ [(b, o, tot)]) (m ++ [⟨.ro, e, xs⟩]) w := by
  have hpre := pre_snoc ρ (b, o, tot)
  refine ⟨by simp [h.len], h.below, h.le, ?_, ?_, ?_, h.maps.step hpre (fun id e es hm => by
    rcases at_app hm with ⟨_, hm⟩ | ⟨_, he⟩
    · exact hm
    · cases he) fun _ _ _ _ h => h, h.oth, h.tab⟩
  · intro id e' xs' hm
    rcases at_app hm with ⟨hi, hm⟩ | ⟨hi, he⟩
    · obtain ⟨b', o', tot', hp, hc⟩ := h.ro id e' xs' hm
      exact ⟨b', o', tot', pre_at hpre hp, fun k x hx => by obtain ⟨h1, y, hy, hv⟩ := hc k x hx; exact ⟨h1, y, hy, hv.mono hpre⟩⟩
    · cases he
      exact ⟨b, o, tot, by rw [hi, ← h.len]; simp, fun k x hx => by obtain ⟨h1, y, hy, hv⟩ := hg k x hx; exact ⟨h1, y, hy, hv.mono hpre⟩⟩
  · intro id e' xs' hm
    rcases at_app hm with ⟨hi, hm⟩ | ⟨hi, he⟩
    · obtain ⟨b', tot', hp, hl, hc⟩ := h.own id e' xs' hm
      refine ⟨b', tot', pre_at hpre hp, hl, fun ht => ?_⟩
      obtain ⟨h1, cur', hg', hs, hcur⟩ := hc ht
      exact ⟨h1, cur', hg', hs, fun k x hx => by obtain ⟨y, hy, hv⟩ := hcur k x hx; exact ⟨y, hy, hv.mono hpre⟩⟩
    · cases he
  · intro i j e1 e2 xs1 xs2 b1 o1 t1 b2 o2 t2 hij h1 h2 hp1 hp2 ht1 ht2
    have old : ∀ (i : Nat) (p : Nat × Nat × Nat), i < m.length → (ρ ++ [(b, o, tot)])[i]? = some p → ρ[i]? = some p := by
      intro i p hi hp
      rw [List.getElem?_append_left (by rw [h.len]; exact hi)] at hp
      exact hp
    rcases at_app h1 with ⟨hi1, hm1⟩ | ⟨hi1, he1⟩
    · rcases at_app h2 with ⟨hi2, hm2⟩ | ⟨hi2, he2⟩
      · exact h.apart i j e1 e2 xs1 xs2 b1 o1 t1 b2 o2 t2 hij hm1 hm2 (old i _ hi1 hp1) (old j _ hi2 hp2) ht1 ht2
      · cases he2
    · cases he1
theorem IntsIn.bd {W : World} {v : Value} {l : List Int} (h : IntsIn W v l) : l.length ≤ 9223372036854775807 := by
  obtain ⟨A, c, _, h1, h2, _⟩ := h
  unfold maxLen at h2; omega
theorem law_calls {P : Program} {f : FuncId} {xs : List Value} {m : Mem} {ρ : Places} {W : World} {cargs : List Value} (h : AC P f xs m fun v _ => v = .bool true) (hm : MRel W W.heap.size ρ m W) (hv : VL ρ xs cargs) :
    Calls P f cargs.toArray W fun e w' => e = .returned (.bool true) ∧ Below W.heap.size W w' := by
  refine (h.2 W W.heap.size ρ W cargs hm hv).mono ?_
  rintro e w' ⟨v, v', m', ρ', rfl, rfl, hp, hm', hvr⟩
  rw [hvr.bool_inv]
  exact ⟨rfl, hm'.below⟩

def RowA (m : Mem) (id : Nat) (l : List Int) : Prop := l.length ≤ 9223372036854775807 ∧ ∃ kd e, kd ≠ Kd.dead ∧ m[id]? = some ⟨kd, e, l.map (Value.int .i64)⟩
theorem RowA.lt {m : Mem} {id : Nat} {l : List Int} (h : RowA m id l) : id < m.length := by
  obtain ⟨_, _, _, _, h⟩ := h
  exact (List.getElem?_eq_some_iff.1 h).1
theorem RowA.ext {m : Mem} {id : Nat} {l : List Int} (h : RowA m id l) (new : Mem) : RowA (m ++ new) id l := by
  have hl := h.lt
  obtain ⟨hb, kd, e, hk, h⟩ := h
  exact ⟨hb, kd, e, hk, by rw [List.getElem?_append_left hl]; exact h⟩
theorem RowA.ro {m : Mem} {id : Nat} {l : List Int} (h : RowA m id l) : RowA (roM m) id l := by
  obtain ⟨hb, kd, e, hk, h⟩ := h
  cases kd with
  | dead => exact absurd rfl hk
  | ro => exact ⟨hb, .ro, e, by simp, by unfold roM; rw [List.getElem?_map, h]; rfl⟩
  | own => exact ⟨hb, .ro, e, by simp, by unfold roM; rw [List.getElem?_map, h]; rfl⟩
theorem RowA.ints {m : Mem} {id : Nat} {l : List Int} (h : RowA m id l) (fl : Nat) : IntsA m (.slice (some ⟨id, 0, none⟩) l.length fl) l := by
  obtain ⟨hb, kd, e, hk, h⟩ := h
  refine IntsA.of_block hb (fun k hk2 => ?_) ?_
  · unfold rdc
    rw [h]
    simp [hk, hk2]
  · unfold rdl
    rw [h]
    simp [hk, List.take_of_length_le]
theorem OwnR.here (m : Mem) (l : List Int) (id : Nat) (h : id = m.length) : OwnR (m ++ [rowB l]) id l := by unfold OwnR; rw [h]; simp
theorem OwnR.new {m new : Mem} {i id : Nat} {l : List Int} (h : new[i]? = some (rowB l)) (hi : id = m.length + i) : OwnR (m ++ new) id l := by
  unfold OwnR; rw [hi, List.getElem?_append_right (by omega)]; simpa using h

def AnsV (x r : Value) (new : Mem) : Prop := r = x ∧ NoRo new
end Go.Proofs.Ytpedjcagaeedjaa.Ab
end
section
namespace Go.Proofs.Ytpedjcagaeedjaa.Ab
open Go Go.RowKit Go.Proofs
set_option maxRecDepth 100000
def c_impl_SellerProfit : ACode := .seq (.reg [⟨(some 3), .box 26 (.tmp 0), none⟩,
  ⟨(some 4), .box 28 (.tmp 1), none⟩,
  ⟨(some 6), .mv (.const (.int .i64 0)), none⟩,
  ⟨(some 7), .mv (.const (.bool false)), none⟩])
 (.seq (.seq (.reg [⟨(some 10), .ld (some 4) (.tmp 3), none⟩,
  ⟨(some 11), .ld (some 3) (.tmp 4), none⟩,
  ⟨(some 12), .call (.func 47) [(.tmp 10), (.tmp 11)], none⟩,
  ⟨(some 13), .un .not (.tmp 12), none⟩,
  ⟨(some 14), .mv (.tmp 13), none⟩,
  ⟨(some 15), .mv (.tmp 2), (some (14, false))⟩,
  ⟨(some 16), .call (.func 48) [(.tmp 15)], (some (14, false))⟩,
  ⟨(some 17), .un .not (.tmp 16), (some (14, false))⟩,
  ⟨(some 18), .pick (.tmp 14) (.const (.bool true)) (.tmp 17), none⟩])
 (.cond (.tmp 18) (.seq (.reg [⟨(some 6), .mv (.const (.int .i64 0)), none⟩,
  ⟨(some 7), .mv (.const (.bool false)), none⟩])
 (.ret)) (.skip)))
 (.seq (.reg [⟨(some 20), .ld (some 4) (.tmp 3), none⟩,
  ⟨(some 21), .ld (some 3) (.tmp 4), none⟩,
  ⟨(some 22), .mv (.tmp 2), none⟩,
  ⟨(some 23), .call (.func 49) [(.tmp 20), (.tmp 21), (.tmp 22)], none⟩,
  ⟨(some 19), .mv (.tmp 23), none⟩,
  ⟨(some 24), .ext 0 (.tmp 19), none⟩,
  ⟨(some 25), .ext 1 (.tmp 19), none⟩,
  ⟨(some 8), .mv (.tmp 24), none⟩,
  ⟨(some 9), .mv (.tmp 25), none⟩])
 (.seq (.reg [⟨(some 26), .mv (.tmp 8), none⟩,
  ⟨(some 6), .mv (.tmp 26), none⟩,
  ⟨(some 7), .mv (.const (.bool true)), none⟩])
 (.ret))))
def r_impl_SellerProfit : List ARes := [.tmp 6, .tmp 7]
theorem ok_impl_SellerProfit : FnOk Try.prog 7 27 c_impl_SellerProfit r_impl_SellerProfit := ⟨⟨Try.f7, _, Try.func7, by kernel_rfl, rfl, rfl, by kernel_rfl, by kernel_rfl⟩⟩
def c_impl_JointProfit : ACode := .seq (.reg [⟨(some 2), .box 26 (.tmp 0), none⟩,
  ⟨(some 4), .mv (.const (.int .i64 0)), none⟩,
  ⟨(some 5), .mv (.const (.bool false)), none⟩])
 (.seq (.seq (.reg [⟨(some 6), .ld (some 4) (.tmp 2), none⟩,
  ⟨(some 7), .call (.func 17) [(.tmp 6)], none⟩,
  ⟨(some 8), .un .not (.tmp 7), none⟩,
  ⟨(some 9), .mv (.tmp 8), none⟩,
  ⟨(some 10), .mv (.tmp 1), (some (9, false))⟩,
  ⟨(some 11), .call (.func 48) [(.tmp 10)], (some (9, false))⟩,
  ⟨(some 12), .un .not (.tmp 11), (some (9, false))⟩,
  ⟨(some 13), .pick (.tmp 9) (.const (.bool true)) (.tmp 12), none⟩])
 (.cond (.tmp 13) (.seq (.reg [⟨(some 4), .mv (.const (.int .i64 0)), none⟩,
  ⟨(some 5), .mv (.const (.bool false)), none⟩])
 (.ret)) (.skip)))
 (.seq (.reg [⟨(some 14), .ld (some 4) (.tmp 2), none⟩,
  ⟨(some 15), .mv (.tmp 1), none⟩,
  ⟨(some 16), .call (.func 54) [(.tmp 14), (.tmp 15)], none⟩,
  ⟨(some 4), .mv (.tmp 16), none⟩,
  ⟨(some 5), .mv (.const (.bool true)), none⟩])
 (.ret)))
def r_impl_JointProfit : List ARes := [.tmp 4, .tmp 5]
theorem ok_impl_JointProfit : FnOk Try.prog 11 17 c_impl_JointProfit r_impl_JointProfit := ⟨⟨Try.f11, _, Try.func11, by kernel_rfl, rfl, rfl, by kernel_rfl, by kernel_rfl⟩⟩
def c_impl_IsMarket : ACode := .seq (.reg [⟨(some 1), .box 26 (.tmp 0), none⟩,
  ⟨(some 2), .mv (.const (.bool false)), none⟩])
 (.seq (.reg [⟨(some 3), .fad 0 (.tmp 1), none⟩,
  ⟨(some 4), .ld none (.tmp 3), none⟩,
  ⟨(some 5), .call (.func 60) [(.tmp 4), (.const (.int .i64 9)), (.const (.int .i64 4))], none⟩,
  ⟨(some 6), .mv (.tmp 5), none⟩,
  ⟨(some 7), .fad 1 (.tmp 1), (some (6, true))⟩,
  ⟨(some 8), .ld none (.tmp 7), (some (6, true))⟩,
  ⟨(some 9), .call (.func 61) [(.tmp 8), (.const (.int .i64 99))], (some (6, true))⟩,
  ⟨(some 10), .pick (.tmp 6) (.tmp 9) (.const (.bool false)), none⟩,
  ⟨(some 11), .mv (.tmp 10), none⟩,
  ⟨(some 12), .fad 2 (.tmp 1), (some (11, true))⟩,
  ⟨(some 13), .ld none (.tmp 12), (some (11, true))⟩,
  ⟨(some 14), .fad 1 (.tmp 1), (some (11, true))⟩,
  ⟨(some 15), .ld none (.tmp 14), (some (11, true))⟩,
  ⟨(some 16), .call (.func 62) [(.tmp 13), (.tmp 15)], (some (11, true))⟩,
  ⟨(some 17), .pick (.tmp 11) (.tmp 16) (.const (.bool false)), none⟩,
  ⟨(some 18), .mv (.tmp 17), none⟩,
  ⟨(some 19), .fad 3 (.tmp 1), (some (18, true))⟩,
  ⟨(some 20), .ld none (.tmp 19), (some (18, true))⟩,
  ⟨(some 21), .fad 2 (.tmp 1), (some (18, true))⟩,
  ⟨(some 22), .ld none (.tmp 21), (some (18, true))⟩,
  ⟨(some 23), .call (.func 62) [(.tmp 20), (.tmp 22)], (some (18, true))⟩,
  ⟨(some 24), .pick (.tmp 18) (.tmp 23) (.const (.bool false)), none⟩,
  ⟨(some 2), .mv (.tmp 24), none⟩])
 (.ret))
def r_impl_IsMarket : List ARes := [.tmp 2]
theorem ok_impl_IsMarket : FnOk Try.prog 17 25 c_impl_IsMarket r_impl_IsMarket := ⟨⟨Try.f17, _, Try.func17, by kernel_rfl, rfl, rfl, by kernel_rfl, by kernel_rfl⟩⟩
def c_impl_JointOrder : ACode := .seq (.reg [⟨(some 1), .box 26 (.tmp 0), none⟩,
  ⟨(some 2), .mv (.const (.int .i64 0)), none⟩,
  ⟨(some 3), .mv (.const (.bool false)), none⟩])
 (.seq (.seq (.reg [⟨(some 6), .ld (some 4) (.tmp 1), none⟩,
  ⟨(some 7), .call (.func 17) [(.tmp 6)], none⟩,
  ⟨(some 8), .un .not (.tmp 7), none⟩])
 (.cond (.tmp 8) (.seq (.reg [⟨(some 2), .mv (.const (.int .i64 0)), none⟩,
  ⟨(some 3), .mv (.const (.bool false)), none⟩])
 (.ret)) (.skip)))
 (.seq (.reg [⟨(some 10), .ld (some 4) (.tmp 1), none⟩,
  ⟨(some 11), .call (.func 59) [(.tmp 10)], none⟩,
  ⟨(some 12), .call (.func 63) [(.tmp 11)], none⟩,
  ⟨(some 9), .mv (.tmp 12), none⟩,
  ⟨(some 13), .ext 0 (.tmp 9), none⟩,
  ⟨(some 14), .ext 1 (.tmp 9), none⟩,
  ⟨(some 4), .mv (.tmp 13), none⟩,
  ⟨(some 5), .mv (.tmp 14), none⟩])
 (.seq (.reg [⟨(some 15), .mv (.tmp 4), none⟩,
  ⟨(some 2), .mv (.tmp 15), none⟩,
  ⟨(some 3), .mv (.const (.bool true)), none⟩])
 (.ret))))
def r_impl_JointOrder : List ARes := [.tmp 2, .tmp 3]
theorem ok_impl_JointOrder : FnOk Try.prog 19 16 c_impl_JointOrder r_impl_JointOrder := ⟨⟨Try.f19, _, Try.func19, by kernel_rfl, rfl, rfl, by kernel_rfl, by kernel_rfl⟩⟩
def c_impl_InProportion : ACode := .seq (.reg [⟨(some 2), .box 26 (.tmp 0), none⟩,
  ⟨(some 3), .box 28 (.tmp 1), none⟩,
  ⟨(some 4), .mv (.const (.bool false)), none⟩,
  ⟨(some 5), .mv (.const (.bool false)), none⟩])
 (.seq (.seq (.reg [⟨(some 6), .ld (some 4) (.tmp 2), none⟩,
  ⟨(some 7), .ld (some 3) (.tmp 3), none⟩,
  ⟨(some 8), .call (.func 47) [(.tmp 6), (.tmp 7)], none⟩,
  ⟨(some 9), .un .not (.tmp 8), none⟩])
 (.cond (.tmp 9) (.seq (.reg [⟨(some 4), .mv (.const (.bool false)), none⟩,
  ⟨(some 5), .mv (.const (.bool false)), none⟩])
 (.ret)) (.skip)))
 (.seq (.reg [⟨(some 10), .ld (some 4) (.tmp 2), none⟩,
  ⟨(some 11), .ld (some 3) (.tmp 3), none⟩,
  ⟨(some 12), .call (.func 70) [(.tmp 10), (.tmp 11)], none⟩,
  ⟨(some 4), .mv (.tmp 12), none⟩,
  ⟨(some 5), .mv (.const (.bool true)), none⟩])
 (.ret)))
def r_impl_InProportion : List ARes := [.tmp 4, .tmp 5]
theorem ok_impl_InProportion : FnOk Try.prog 29 13 c_impl_InProportion r_impl_InProportion := ⟨⟨Try.f29, _, Try.func29, by kernel_rfl, rfl, rfl, by kernel_rfl, by kernel_rfl⟩⟩
def c_spec_InProportion : ACode := .seq (.reg [⟨(some 2), .box 26 (.tmp 0), none⟩,
  ⟨(some 3), .box 28 (.tmp 1), none⟩,
  ⟨(some 4), .mv (.const (.bool false)), none⟩,
  ⟨(some 5), .mv (.const (.bool false)), none⟩])
 (.seq (.seq (.reg [⟨(some 6), .ld (some 4) (.tmp 2), none⟩,
  ⟨(some 7), .ld (some 3) (.tmp 3), none⟩,
  ⟨(some 8), .call (.func 50) [(.tmp 6), (.tmp 7)], none⟩,
  ⟨(some 9), .un .not (.tmp 8), none⟩])
 (.cond (.tmp 9) (.seq (.reg [⟨(some 4), .mv (.const (.bool false)), none⟩,
  ⟨(some 5), .mv (.const (.bool false)), none⟩])
 (.ret)) (.skip)))
 (.seq (.reg [⟨(some 10), .ld (some 4) (.tmp 2), none⟩,
  ⟨(some 11), .ld (some 3) (.tmp 3), none⟩,
  ⟨(some 12), .call (.func 71) [(.tmp 10), (.tmp 11)], none⟩,
  ⟨(some 4), .mv (.tmp 12), none⟩,
  ⟨(some 5), .mv (.const (.bool true)), none⟩])
 (.ret)))
def r_spec_InProportion : List ARes := [.tmp 4, .tmp 5]
theorem ok_spec_InProportion : FnOk Try.prog 30 13 c_spec_InProportion r_spec_InProportion := ⟨⟨Try.f30, _, Try.func30, by kernel_rfl, rfl, rfl, by kernel_rfl, by kernel_rfl⟩⟩
def c_impl_IsContract : ACode := .seq (.reg [⟨(some 1), .box 28 (.tmp 0), none⟩,
  ⟨(some 2), .mv (.const (.bool false)), none⟩])
 (.seq (.reg [⟨(some 3), .fad 0 (.tmp 1), none⟩,
  ⟨(some 4), .ld none (.tmp 3), none⟩,
  ⟨(some 5), .call (.func 62) [(.tmp 4), (.const (.int .i64 99))], none⟩,
  ⟨(some 6), .mv (.tmp 5), none⟩,
  ⟨(some 7), .fad 1 (.tmp 1), (some (6, true))⟩,
  ⟨(some 8), .ld none (.tmp 7), (some (6, true))⟩,
  ⟨(some 9), .call (.func 62) [(.tmp 8), (.const (.int .i64 99))], (some (6, true))⟩,
  ⟨(some 10), .pick (.tmp 6) (.tmp 9) (.const (.bool false)), none⟩,
  ⟨(some 11), .mv (.tmp 10), none⟩,
  ⟨(some 12), .fad 2 (.tmp 1), (some (11, true))⟩,
  ⟨(some 13), .ld none (.tmp 12), (some (11, true))⟩,
  ⟨(some 14), .call (.func 62) [(.tmp 13), (.const (.int .i64 100))], (some (11, true))⟩,
  ⟨(some 15), .pick (.tmp 11) (.tmp 14) (.const (.bool false)), none⟩,
  ⟨(some 2), .mv (.tmp 15), none⟩])
 (.ret))
def r_impl_IsContract : List ARes := [.tmp 2]
theorem ok_impl_IsContract : FnOk Try.prog 31 16 c_impl_IsContract r_impl_IsContract := ⟨⟨Try.f31, _, Try.func31, by kernel_rfl, rfl, rfl, by kernel_rfl, by kernel_rfl⟩⟩
def c_spec_IsContract : ACode := .seq (.reg [⟨(some 1), .box 28 (.tmp 0), none⟩,
  ⟨(some 2), .mv (.const (.bool false)), none⟩])
 (.seq (.reg [⟨(some 3), .ld (some 3) (.tmp 1), none⟩,
  ⟨(some 4), .call (.func 72) [(.tmp 3)], none⟩,
  ⟨(some 2), .mv (.tmp 4), none⟩])
 (.ret))
def r_spec_IsContract : List ARes := [.tmp 2]
theorem ok_spec_IsContract : FnOk Try.prog 32 5 c_spec_IsContract r_spec_IsContract := ⟨⟨Try.f32, _, Try.func32, by kernel_rfl, rfl, rfl, by kernel_rfl, by kernel_rfl⟩⟩
def c_impl_SellerOrder : ACode := .seq (.reg [⟨(some 2), .box 26 (.tmp 0), none⟩,
  ⟨(some 3), .box 28 (.tmp 1), none⟩,
  ⟨(some 4), .mv (.const (.int .i64 0)), none⟩,
  ⟨(some 5), .mv (.const (.bool false)), none⟩])
 (.seq (.seq (.reg [⟨(some 6), .ld (some 4) (.tmp 2), none⟩,
  ⟨(some 7), .ld (some 3) (.tmp 3), none⟩,
  ⟨(some 8), .call (.func 47) [(.tmp 6), (.tmp 7)], none⟩,
  ⟨(some 9), .un .not (.tmp 8), none⟩])
 (.cond (.tmp 9) (.seq (.reg [⟨(some 4), .mv (.const (.int .i64 0)), none⟩,
  ⟨(some 5), .mv (.const (.bool false)), none⟩])
 (.ret)) (.skip)))
 (.seq (.reg [⟨(some 10), .ld (some 4) (.tmp 2), none⟩,
  ⟨(some 11), .ld (some 3) (.tmp 3), none⟩,
  ⟨(some 12), .call (.func 73) [(.tmp 10), (.tmp 11)], none⟩,
  ⟨(some 4), .mv (.tmp 12), none⟩,
  ⟨(some 5), .mv (.const (.bool true)), none⟩])
 (.ret)))
def r_impl_SellerOrder : List ARes := [.tmp 4, .tmp 5]
theorem ok_impl_SellerOrder : FnOk Try.prog 33 13 c_impl_SellerOrder r_impl_SellerOrder := ⟨⟨Try.f33, _, Try.func33, by kernel_rfl, rfl, rfl, by kernel_rfl, by kernel_rfl⟩⟩
def c_spec_SellerOrder : ACode := .seq (.reg [⟨(some 2), .box 26 (.tmp 0), none⟩,
  ⟨(some 3), .box 28 (.tmp 1), none⟩,
  ⟨(some 4), .mv (.const (.int .i64 0)), none⟩,
  ⟨(some 5), .mv (.const (.bool false)), none⟩])
 (.seq (.seq (.reg [⟨(some 6), .ld (some 4) (.tmp 2), none⟩,
  ⟨(some 7), .ld (some 3) (.tmp 3), none⟩,
  ⟨(some 8), .call (.func 50) [(.tmp 6), (.tmp 7)], none⟩,
  ⟨(some 9), .un .not (.tmp 8), none⟩])
 (.cond (.tmp 9) (.seq (.reg [⟨(some 4), .mv (.const (.int .i64 0)), none⟩,
  ⟨(some 5), .mv (.const (.bool false)), none⟩])
 (.ret)) (.skip)))
 (.seq (.reg [⟨(some 10), .ld (some 4) (.tmp 2), none⟩,
  ⟨(some 11), .ld (some 3) (.tmp 3), none⟩,
  ⟨(some 12), .call (.func 74) [(.tmp 10), (.tmp 11)], none⟩,
  ⟨(some 4), .mv (.tmp 12), none⟩,
  ⟨(some 5), .mv (.const (.bool true)), none⟩])
 (.ret)))
def r_spec_SellerOrder : List ARes := [.tmp 4, .tmp 5]
theorem ok_spec_SellerOrder : FnOk Try.prog 34 13 c_spec_SellerOrder r_spec_SellerOrder := ⟨⟨Try.f34, _, Try.func34, by kernel_rfl, rfl, rfl, by kernel_rfl, by kernel_rfl⟩⟩
def c_impl_ProfitLoss : ACode := .seq (.reg [⟨(some 2), .box 26 (.tmp 0), none⟩,
  ⟨(some 3), .box 28 (.tmp 1), none⟩,
  ⟨(some 4), .mv (.const (.int .i64 0)), none⟩,
  ⟨(some 5), .mv (.const (.bool false)), none⟩])
 (.seq (.seq (.reg [⟨(some 6), .ld (some 4) (.tmp 2), none⟩,
  ⟨(some 7), .ld (some 3) (.tmp 3), none⟩,
  ⟨(some 8), .call (.func 47) [(.tmp 6), (.tmp 7)], none⟩,
  ⟨(some 9), .un .not (.tmp 8), none⟩])
 (.cond (.tmp 9) (.seq (.reg [⟨(some 4), .mv (.const (.int .i64 0)), none⟩,
  ⟨(some 5), .mv (.const (.bool false)), none⟩])
 (.ret)) (.skip)))
 (.seq (.reg [⟨(some 10), .ld (some 4) (.tmp 2), none⟩,
  ⟨(some 11), .ld (some 3) (.tmp 3), none⟩,
  ⟨(some 12), .call (.func 75) [(.tmp 10), (.tmp 11)], none⟩,
  ⟨(some 4), .mv (.tmp 12), none⟩,
  ⟨(some 5), .mv (.const (.bool true)), none⟩])
 (.ret)))
def r_impl_ProfitLoss : List ARes := [.tmp 4, .tmp 5]
theorem ok_impl_ProfitLoss : FnOk Try.prog 35 13 c_impl_ProfitLoss r_impl_ProfitLoss := ⟨⟨Try.f35, _, Try.func35, by kernel_rfl, rfl, rfl, by kernel_rfl, by kernel_rfl⟩⟩
def c_spec_ProfitLoss : ACode := .seq (.reg [⟨(some 2), .box 26 (.tmp 0), none⟩,
  ⟨(some 3), .box 28 (.tmp 1), none⟩,
  ⟨(some 4), .mv (.const (.int .i64 0)), none⟩,
  ⟨(some 5), .mv (.const (.bool false)), none⟩])
 (.seq (.seq (.reg [⟨(some 6), .ld (some 4) (.tmp 2), none⟩,
  ⟨(some 7), .ld (some 3) (.tmp 3), none⟩,
  ⟨(some 8), .call (.func 50) [(.tmp 6), (.tmp 7)], none⟩,
  ⟨(some 9), .un .not (.tmp 8), none⟩])
 (.cond (.tmp 9) (.seq (.reg [⟨(some 4), .mv (.const (.int .i64 0)), none⟩,
  ⟨(some 5), .mv (.const (.bool false)), none⟩])
 (.ret)) (.skip)))
 (.seq (.reg [⟨(some 10), .ld (some 4) (.tmp 2), none⟩,
  ⟨(some 11), .ld (some 3) (.tmp 3), none⟩,
  ⟨(some 12), .call (.func 76) [(.tmp 10), (.tmp 11)], none⟩,
  ⟨(some 4), .mv (.tmp 12), none⟩,
  ⟨(some 5), .mv (.const (.bool true)), none⟩])
 (.ret)))
def r_spec_ProfitLoss : List ARes := [.tmp 4, .tmp 5]
theorem ok_spec_ProfitLoss : FnOk Try.prog 36 13 c_spec_ProfitLoss r_spec_ProfitLoss := ⟨⟨Try.f36, _, Try.func36, by kernel_rfl, rfl, rfl, by kernel_rfl, by kernel_rfl⟩⟩
def c_impl_IsCoordinated : ACode := .seq (.reg [⟨(some 2), .box 26 (.tmp 0), none⟩,
  ⟨(some 3), .box 28 (.tmp 1), none⟩,
  ⟨(some 4), .mv (.const (.bool false)), none⟩,
  ⟨(some 5), .mv (.const (.bool false)), none⟩])
 (.seq (.seq (.reg [⟨(some 6), .ld (some 4) (.tmp 2), none⟩,
  ⟨(some 7), .ld (some 3) (.tmp 3), none⟩,
  ⟨(some 8), .call (.func 47) [(.tmp 6), (.tmp 7)], none⟩,
  ⟨(some 9), .un .not (.tmp 8), none⟩])
 (.cond (.tmp 9) (.seq (.reg [⟨(some 4), .mv (.const (.bool false)), none⟩,
  ⟨(some 5), .mv (.const (.bool false)), none⟩])
 (.ret)) (.skip)))
 (.seq (.reg [⟨(some 10), .ld (some 4) (.tmp 2), none⟩,
  ⟨(some 11), .ld (some 3) (.tmp 3), none⟩,
  ⟨(some 12), .call (.func 75) [(.tmp 10), (.tmp 11)], none⟩,
  ⟨(some 13), .bin .eql (.tmp 12) (.const (.int .i64 0)), none⟩,
  ⟨(some 4), .mv (.tmp 13), none⟩,
  ⟨(some 5), .mv (.const (.bool true)), none⟩])
 (.ret)))
def r_impl_IsCoordinated : List ARes := [.tmp 4, .tmp 5]
theorem ok_impl_IsCoordinated : FnOk Try.prog 37 14 c_impl_IsCoordinated r_impl_IsCoordinated := ⟨⟨Try.f37, _, Try.func37, by kernel_rfl, rfl, rfl, by kernel_rfl, by kernel_rfl⟩⟩
def c_spec_IsCoordinated : ACode := .seq (.reg [⟨(some 2), .box 26 (.tmp 0), none⟩,
  ⟨(some 3), .box 28 (.tmp 1), none⟩,
  ⟨(some 4), .mv (.const (.bool false)), none⟩,
  ⟨(some 5), .mv (.const (.bool false)), none⟩])
 (.seq (.seq (.reg [⟨(some 6), .ld (some 4) (.tmp 2), none⟩,
  ⟨(some 7), .ld (some 3) (.tmp 3), none⟩,
  ⟨(some 8), .call (.func 50) [(.tmp 6), (.tmp 7)], none⟩,
  ⟨(some 9), .un .not (.tmp 8), none⟩])
 (.cond (.tmp 9) (.seq (.reg [⟨(some 4), .mv (.const (.bool false)), none⟩,
  ⟨(some 5), .mv (.const (.bool false)), none⟩])
 (.ret)) (.skip)))
 (.seq (.reg [⟨(some 10), .ld (some 4) (.tmp 2), none⟩,
  ⟨(some 11), .ld (some 3) (.tmp 3), none⟩,
  ⟨(some 12), .call (.func 76) [(.tmp 10), (.tmp 11)], none⟩,
  ⟨(some 13), .bin .eql (.tmp 12) (.const (.int .i64 0)), none⟩,
  ⟨(some 4), .mv (.tmp 13), none⟩,
  ⟨(some 5), .mv (.const (.bool true)), none⟩])
 (.ret)))
def r_spec_IsCoordinated : List ARes := [.tmp 4, .tmp 5]
theorem ok_spec_IsCoordinated : FnOk Try.prog 38 14 c_spec_IsCoordinated r_spec_IsCoordinated := ⟨⟨Try.f38, _, Try.func38, by kernel_rfl, rfl, rfl, by kernel_rfl, by kernel_rfl⟩⟩
def c_impl_PayFor : ACode := .seq (.reg [⟨(some 3), .box 26 (.tmp 0), none⟩,
  ⟨(some 6), .mv (.const (.int .i64 0)), none⟩,
  ⟨(some 7), .mv (.const (.bool false)), none⟩])
 (.seq (.seq (.reg [⟨(some 8), .ld (some 4) (.tmp 3), none⟩,
  ⟨(some 9), .mv (.tmp 1), none⟩,
  ⟨(some 10), .mv (.tmp 2), none⟩,
  ⟨(some 11), .bld [(.int .i64 0), (.int .i64 0), (.int .i64 0)] [(1, 1, (.tmp 9)), (2, 1, (.tmp 10))], none⟩,
  ⟨(some 12), .call (.func 47) [(.tmp 8), (.tmp 11)], none⟩,
  ⟨(some 13), .un .not (.tmp 12), none⟩])
 (.cond (.tmp 13) (.seq (.reg [⟨(some 6), .mv (.const (.int .i64 0)), none⟩,
  ⟨(some 7), .mv (.const (.bool false)), none⟩])
 (.ret)) (.skip)))
 (.seq (.reg [⟨(some 14), .ld (some 4) (.tmp 3), none⟩,
  ⟨(some 15), .mv (.tmp 1), none⟩,
  ⟨(some 16), .mv (.tmp 2), none⟩,
  ⟨(some 17), .call (.func 78) [(.tmp 14), (.tmp 15), (.tmp 16)], none⟩,
  ⟨(some 18), .ext 0 (.tmp 17), none⟩,
  ⟨(some 19), .ext 1 (.tmp 17), none⟩,
  ⟨(some 6), .mv (.tmp 18), none⟩,
  ⟨(some 7), .mv (.tmp 19), none⟩])
 (.ret)))
def r_impl_PayFor : List ARes := [.tmp 6, .tmp 7]
theorem ok_impl_PayFor : FnOk Try.prog 40 20 c_impl_PayFor r_impl_PayFor := ⟨⟨Try.f40, _, Try.func40, by kernel_rfl, rfl, rfl, by kernel_rfl, by kernel_rfl⟩⟩
def c_spec_PayFor : ACode := .seq (.reg [⟨(some 3), .box 26 (.tmp 0), none⟩,
  ⟨(some 6), .mv (.const (.int .i64 0)), none⟩,
  ⟨(some 7), .mv (.const (.bool false)), none⟩])
 (.seq (.seq (.reg [⟨(some 9), .ld (some 4) (.tmp 3), none⟩,
  ⟨(some 10), .call (.func 55) [(.tmp 9)], none⟩,
  ⟨(some 11), .un .not (.tmp 10), none⟩,
  ⟨(some 12), .mv (.tmp 11), none⟩,
  ⟨(some 13), .mv (.tmp 1), (some (12, false))⟩,
  ⟨(some 14), .call (.func 79) [(.tmp 13), (.const (.int .i64 0)), (.const (.int .i64 99))], (some (12, false))⟩,
  ⟨(some 15), .un .not (.tmp 14), (some (12, false))⟩,
  ⟨(some 16), .pick (.tmp 12) (.const (.bool true)) (.tmp 15), none⟩,
  ⟨(some 17), .mv (.tmp 16), none⟩,
  ⟨(some 18), .mv (.tmp 2), (some (17, false))⟩,
  ⟨(some 19), .call (.func 79) [(.tmp 18), (.const (.int .i64 0)), (.const (.int .i64 100))], (some (17, false))⟩,
  ⟨(some 20), .un .not (.tmp 19), (some (17, false))⟩,
  ⟨(some 21), .pick (.tmp 17) (.const (.bool true)) (.tmp 20), none⟩,
  ⟨(some 22), .mv (.tmp 21), none⟩,
  ⟨(some 23), .fad 1 (.tmp 3), (some (22, false))⟩,
  ⟨(some 24), .ld none (.tmp 23), (some (22, false))⟩,
  ⟨(some 25), .fad 3 (.tmp 3), (some (22, false))⟩,
  ⟨(some 26), .ld none (.tmp 25), (some (22, false))⟩,
  ⟨(some 27), .bin .eql (.tmp 24) (.tmp 26), (some (22, false))⟩,
  ⟨(some 28), .pick (.tmp 22) (.const (.bool true)) (.tmp 27), none⟩])
 (.cond (.tmp 28) (.seq (.reg [⟨(some 6), .mv (.const (.int .i64 0)), none⟩,
  ⟨(some 7), .mv (.const (.bool false)), none⟩])
 (.ret)) (.skip)))
 (.seq (.seq (.reg [⟨(some 8), .mv (.const (.int .i64 0)), none⟩])
 (.block 0 (.loop (.seq (.seq (.reg [⟨(some 29), .mv (.tmp 8), none⟩,
  ⟨(some 30), .bin .leq (.tmp 29) (.const (.int .i64 99)), none⟩])
 (.cond (.tmp 30) (.skip) (.exit 0)))
 (.seq (.block 1 (.seq (.reg [⟨(some 33), .ld (some 4) (.tmp 3), none⟩,
  ⟨(some 34), .mv (.tmp 8), none⟩,
  ⟨(some 35), .mv (.tmp 1), none⟩,
  ⟨(some 36), .mv (.tmp 2), none⟩,
  ⟨(some 37), .bld [(.int .i64 0), (.int .i64 0), (.int .i64 0)] [(0, 1, (.tmp 34)), (1, 1, (.tmp 35)), (2, 1, (.tmp 36))], none⟩,
  ⟨(some 38), .call (.func 71) [(.tmp 33), (.tmp 37)], none⟩])
 (.cond (.tmp 38) (.seq (.reg [⟨(some 39), .mv (.tmp 8), none⟩,
  ⟨(some 6), .mv (.tmp 39), none⟩,
  ⟨(some 7), .mv (.const (.bool true)), none⟩])
 (.ret)) (.skip))))
 (.reg [⟨(some 31), .mv (.tmp 8), none⟩,
  ⟨(some 32), .bin .add (.tmp 31) (.const (.int .i64 1)), none⟩,
  ⟨(some 8), .mv (.tmp 32), none⟩]))))))
 (.seq (.reg [⟨(some 6), .mv (.const (.int .i64 0)), none⟩,
  ⟨(some 7), .mv (.const (.bool false)), none⟩])
 (.ret))))
def r_spec_PayFor : List ARes := [.tmp 6, .tmp 7]
theorem ok_spec_PayFor : FnOk Try.prog 41 40 c_spec_PayFor r_spec_PayFor := ⟨⟨Try.f41, _, Try.func41, by kernel_rfl, rfl, rfl, by kernel_rfl, by kernel_rfl⟩⟩
def c_impl_BackContracts : ACode := .seq (.reg [⟨(some 1), .box 26 (.tmp 0), none⟩,
  ⟨(some 2), .mv (.const (.slice none 0 0)), none⟩,
  ⟨(some 3), .mv (.const (.bool false)), none⟩])
 (.seq (.seq (.reg [⟨(some 8), .ld (some 4) (.tmp 1), none⟩,
  ⟨(some 9), .call (.func 17) [(.tmp 8)], none⟩,
  ⟨(some 10), .un .not (.tmp 9), none⟩])
 (.cond (.tmp 10) (.seq (.reg [⟨(some 11), .bsl 28 3 0 [] [], none⟩,
  ⟨(some 2), .mv (.tmp 11), none⟩,
  ⟨(some 3), .mv (.const (.bool false)), none⟩])
 (.ret)) (.skip)))
 (.seq (.reg [⟨(some 12), .bsl 28 3 0 [] [], none⟩,
  ⟨(some 4), .mv (.tmp 12), none⟩])
 (.seq (.seq (.reg [⟨(some 13), .mv (.const (.int .i64 0)), none⟩])
 (.block 0 (.loop (.seq (.reg [⟨(some 14), .bin .lss (.tmp 13) (.const (.int .i64 100)), none⟩])
 (.seq (.cond (.tmp 14) (.skip) (.exit 0))
 (.seq (.block 1 (.seq (.reg [⟨(some 15), .mv (.tmp 13), none⟩,
  ⟨(some 5), .mv (.tmp 15), none⟩])
 (.seq (.reg [⟨(some 17), .ld (some 4) (.tmp 1), none⟩,
  ⟨(some 18), .mv (.tmp 5), none⟩,
  ⟨(some 19), .call (.func 78) [(.tmp 17), (.tmp 18), (.const (.int .i64 100))], none⟩,
  ⟨(some 16), .mv (.tmp 19), none⟩,
  ⟨(some 20), .ext 0 (.tmp 16), none⟩,
  ⟨(some 21), .ext 1 (.tmp 16), none⟩,
  ⟨(some 6), .mv (.tmp 20), none⟩,
  ⟨(some 7), .mv (.tmp 21), none⟩])
 (.seq (.reg [⟨(some 22), .mv (.tmp 7), none⟩])
 (.cond (.tmp 22) (.reg [⟨(some 23), .mv (.tmp 4), none⟩,
  ⟨(some 24), .mv (.tmp 6), none⟩,
  ⟨(some 25), .mv (.tmp 5), none⟩,
  ⟨(some 26), .bld [(.int .i64 0), (.int .i64 0), (.int .i64 0)] [(0, 1, (.tmp 24)), (1, 1, (.tmp 25)), (2, 1, (.const (.int .i64 100)))], none⟩,
  ⟨(some 27), .bsl 28 3 1 [(.int .i64 0), (.int .i64 0), (.int .i64 0)] [(0, 3, (.tmp 26))], none⟩,
  ⟨(some 28), .app 28 3 24 (.tmp 23) (.tmp 27), none⟩,
  ⟨(some 4), .mv (.tmp 28), none⟩]) (.skip))))))
 (.reg [⟨(some 29), .bin .add (.tmp 13) (.const (.int .i64 1)), none⟩,
  ⟨(some 13), .mv (.tmp 29), none⟩])))))))
 (.seq (.reg [⟨(some 30), .mv (.tmp 4), none⟩,
  ⟨(some 2), .mv (.tmp 30), none⟩,
  ⟨(some 3), .mv (.const (.bool true)), none⟩])
 (.ret)))))
def r_impl_BackContracts : List ARes := [.tmp 2, .tmp 3]
theorem ok_impl_BackContracts : FnOk Try.prog 42 31 c_impl_BackContracts r_impl_BackContracts := ⟨⟨Try.f42, _, Try.func42, by kernel_rfl, rfl, rfl, by kernel_rfl, by kernel_rfl⟩⟩
def c_spec_BackContracts : ACode := .seq (.reg [⟨(some 1), .box 26 (.tmp 0), none⟩,
  ⟨(some 2), .mv (.const (.slice none 0 0)), none⟩,
  ⟨(some 3), .mv (.const (.bool false)), none⟩])
 (.seq (.reg [⟨(some 8), .bsl 28 3 0 [] [], none⟩,
  ⟨(some 4), .mv (.tmp 8), none⟩])
 (.seq (.seq (.reg [⟨(some 9), .ld (some 4) (.tmp 1), none⟩,
  ⟨(some 10), .call (.func 55) [(.tmp 9)], none⟩,
  ⟨(some 11), .un .not (.tmp 10), none⟩])
 (.cond (.tmp 11) (.seq (.reg [⟨(some 12), .mv (.tmp 4), none⟩,
  ⟨(some 2), .mv (.tmp 12), none⟩,
  ⟨(some 3), .mv (.const (.bool false)), none⟩])
 (.ret)) (.skip)))
 (.seq (.seq (.reg [⟨(some 5), .mv (.const (.int .i64 0)), none⟩])
 (.block 0 (.loop (.seq (.seq (.reg [⟨(some 13), .mv (.tmp 5), none⟩,
  ⟨(some 14), .bin .leq (.tmp 13) (.const (.int .i64 99)), none⟩])
 (.cond (.tmp 14) (.skip) (.exit 0)))
 (.seq (.block 1 (.seq (.reg [⟨(some 6), .mv (.const (.int .i64 0)), none⟩])
 (.block 2 (.loop (.seq (.seq (.reg [⟨(some 17), .mv (.tmp 6), none⟩,
  ⟨(some 18), .bin .leq (.tmp 17) (.const (.int .i64 99)), none⟩])
 (.cond (.tmp 18) (.skip) (.exit 2)))
 (.seq (.block 3 (.seq (.reg [⟨(some 21), .mv (.tmp 6), none⟩,
  ⟨(some 22), .mv (.tmp 5), none⟩,
  ⟨(some 23), .bld [(.int .i64 0), (.int .i64 0), (.int .i64 0)] [(0, 1, (.tmp 21)), (1, 1, (.tmp 22)), (2, 1, (.const (.int .i64 100)))], none⟩,
  ⟨(some 7), .alc 28 [(.int .i64 0), (.int .i64 0), (.int .i64 0)], none⟩,
  ⟨none, .st 3 (.tmp 7) (.tmp 23), none⟩])
 (.seq (.reg [⟨(some 24), .ld (some 4) (.tmp 1), none⟩,
  ⟨(some 25), .ld (some 3) (.tmp 7), none⟩,
  ⟨(some 26), .call (.func 71) [(.tmp 24), (.tmp 25)], none⟩])
 (.cond (.tmp 26) (.reg [⟨(some 27), .mv (.tmp 4), none⟩,
  ⟨(some 28), .ld (some 3) (.tmp 7), none⟩,
  ⟨(some 29), .bsl 28 3 1 [(.int .i64 0), (.int .i64 0), (.int .i64 0)] [(0, 3, (.tmp 28))], none⟩,
  ⟨(some 30), .app 28 3 24 (.tmp 27) (.tmp 29), none⟩,
  ⟨(some 4), .mv (.tmp 30), none⟩]) (.skip)))))
 (.reg [⟨(some 19), .mv (.tmp 6), none⟩,
  ⟨(some 20), .bin .add (.tmp 19) (.const (.int .i64 1)), none⟩,
  ⟨(some 6), .mv (.tmp 20), none⟩])))))))
 (.reg [⟨(some 15), .mv (.tmp 5), none⟩,
  ⟨(some 16), .bin .add (.tmp 15) (.const (.int .i64 1)), none⟩,
  ⟨(some 5), .mv (.tmp 16), none⟩]))))))
 (.seq (.reg [⟨(some 31), .mv (.tmp 4), none⟩,
  ⟨(some 2), .mv (.tmp 31), none⟩,
  ⟨(some 3), .mv (.const (.bool true)), none⟩])
 (.ret)))))
def r_spec_BackContracts : List ARes := [.tmp 2, .tmp 3]
theorem ok_spec_BackContracts : FnOk Try.prog 43 32 c_spec_BackContracts r_spec_BackContracts := ⟨⟨Try.f43, _, Try.func43, by kernel_rfl, rfl, rfl, by kernel_rfl, by kernel_rfl⟩⟩
def c_impl_isAgreed : ACode := .seq (.reg [⟨(some 2), .box 26 (.tmp 0), none⟩,
  ⟨(some 3), .box 28 (.tmp 1), none⟩,
  ⟨(some 4), .mv (.const (.bool false)), none⟩])
 (.seq (.reg [⟨(some 5), .ld (some 4) (.tmp 2), none⟩,
  ⟨(some 6), .call (.func 17) [(.tmp 5)], none⟩,
  ⟨(some 7), .mv (.tmp 6), none⟩,
  ⟨(some 8), .ld (some 3) (.tmp 3), (some (7, true))⟩,
  ⟨(some 9), .call (.func 31) [(.tmp 8)], (some (7, true))⟩,
  ⟨(some 10), .pick (.tmp 7) (.tmp 9) (.const (.bool false)), none⟩,
  ⟨(some 4), .mv (.tmp 10), none⟩])
 (.ret))
def r_impl_isAgreed : List ARes := [.tmp 4]
theorem ok_impl_isAgreed : FnOk Try.prog 47 11 c_impl_isAgreed r_impl_isAgreed := ⟨⟨Try.f47, _, Try.func47, by kernel_rfl, rfl, rfl, by kernel_rfl, by kernel_rfl⟩⟩
def c_impl_isSalesOrder : ACode := .seq (.reg [⟨(some 2), .mv (.const (.bool false)), none⟩])
 (.seq (.reg [⟨(some 3), .mv (.tmp 0), none⟩,
  ⟨(some 4), .call (.func 62) [(.tmp 3), (.const (.int .i64 8))], none⟩,
  ⟨(some 2), .mv (.tmp 4), none⟩])
 (.ret))
def r_impl_isSalesOrder : List ARes := [.tmp 2]
theorem ok_impl_isSalesOrder : FnOk Try.prog 48 5 c_impl_isSalesOrder r_impl_isSalesOrder := ⟨⟨Try.f48, _, Try.func48, by kernel_rfl, rfl, rfl, by kernel_rfl, by kernel_rfl⟩⟩
def c_impl_profitsOf : ACode := .seq (.reg [⟨(some 3), .box 26 (.tmp 0), none⟩,
  ⟨(some 4), .box 28 (.tmp 1), none⟩,
  ⟨(some 6), .mv (.const (.int .i64 0)), none⟩,
  ⟨(some 7), .mv (.const (.int .i64 0)), none⟩])
 (.seq (.reg [⟨(some 14), .ld (some 4) (.tmp 3), none⟩,
  ⟨(some 15), .mv (.tmp 2), none⟩,
  ⟨(some 16), .call (.func 57) [(.tmp 14), (.tmp 15)], none⟩,
  ⟨(some 13), .mv (.tmp 16), none⟩,
  ⟨(some 17), .ext 0 (.tmp 13), none⟩,
  ⟨(some 18), .ext 1 (.tmp 13), none⟩,
  ⟨(some 8), .mv (.tmp 17), none⟩,
  ⟨(some 9), .mv (.tmp 18), none⟩])
 (.seq (.reg [⟨(some 19), .mv (.tmp 8), none⟩,
  ⟨(some 20), .mv (.tmp 9), none⟩,
  ⟨(some 21), .bin .add (.tmp 19) (.tmp 20), none⟩,
  ⟨(some 10), .mv (.tmp 21), none⟩])
 (.seq (.reg [⟨(some 22), .fad 2 (.tmp 4), none⟩,
  ⟨(some 23), .ld none (.tmp 22), none⟩,
  ⟨(some 24), .fad 1 (.tmp 3), none⟩,
  ⟨(some 25), .ld none (.tmp 24), none⟩,
  ⟨(some 26), .bin .mul (.tmp 23) (.tmp 25), none⟩,
  ⟨(some 27), .mv (.tmp 8), none⟩,
  ⟨(some 28), .bin .mul (.tmp 26) (.tmp 27), none⟩,
  ⟨(some 29), .fad 3 (.tmp 3), none⟩,
  ⟨(some 30), .ld none (.tmp 29), none⟩,
  ⟨(some 31), .fad 1 (.tmp 4), none⟩,
  ⟨(some 32), .ld none (.tmp 31), none⟩,
  ⟨(some 33), .bin .add (.tmp 30) (.tmp 32), none⟩,
  ⟨(some 34), .mv (.tmp 9), none⟩,
  ⟨(some 35), .bin .mul (.tmp 33) (.tmp 34), none⟩,
  ⟨(some 36), .fad 0 (.tmp 4), none⟩,
  ⟨(some 37), .ld none (.tmp 36), none⟩,
  ⟨(some 38), .mv (.tmp 10), none⟩,
  ⟨(some 39), .bin .mul (.tmp 37) (.tmp 38), none⟩,
  ⟨(some 40), .bin .sub (.tmp 35) (.tmp 39), none⟩,
  ⟨(some 41), .bin .mul (.const (.int .i64 100)) (.tmp 40), none⟩,
  ⟨(some 42), .bin .add (.tmp 28) (.tmp 41), none⟩,
  ⟨(some 11), .mv (.tmp 42), none⟩])
 (.seq (.reg [⟨(some 43), .fad 2 (.tmp 4), none⟩,
  ⟨(some 44), .ld none (.tmp 43), none⟩,
  ⟨(some 45), .bin .sub (.const (.int .i64 100)) (.tmp 44), none⟩,
  ⟨(some 46), .fad 1 (.tmp 3), none⟩,
  ⟨(some 47), .ld none (.tmp 46), none⟩,
  ⟨(some 48), .bin .mul (.tmp 45) (.tmp 47), none⟩,
  ⟨(some 49), .mv (.tmp 8), none⟩,
  ⟨(some 50), .bin .mul (.tmp 48) (.tmp 49), none⟩,
  ⟨(some 51), .fad 0 (.tmp 4), none⟩,
  ⟨(some 52), .ld none (.tmp 51), none⟩,
  ⟨(some 53), .fad 2 (.tmp 3), none⟩,
  ⟨(some 54), .ld none (.tmp 53), none⟩,
  ⟨(some 55), .bin .sub (.tmp 52) (.tmp 54), none⟩,
  ⟨(some 56), .mv (.tmp 10), none⟩,
  ⟨(some 57), .bin .mul (.tmp 55) (.tmp 56), none⟩,
  ⟨(some 58), .fad 1 (.tmp 4), none⟩,
  ⟨(some 59), .ld none (.tmp 58), none⟩,
  ⟨(some 60), .mv (.tmp 9), none⟩,
  ⟨(some 61), .bin .mul (.tmp 59) (.tmp 60), none⟩,
  ⟨(some 62), .bin .sub (.tmp 57) (.tmp 61), none⟩,
  ⟨(some 63), .bin .mul (.const (.int .i64 100)) (.tmp 62), none⟩,
  ⟨(some 64), .bin .add (.tmp 50) (.tmp 63), none⟩,
  ⟨(some 12), .mv (.tmp 64), none⟩])
 (.seq (.reg [⟨(some 65), .mv (.tmp 11), none⟩,
  ⟨(some 66), .mv (.tmp 12), none⟩,
  ⟨(some 6), .mv (.tmp 65), none⟩,
  ⟨(some 7), .mv (.tmp 66), none⟩])
 (.ret))))))
def r_impl_profitsOf : List ARes := [.tmp 6, .tmp 7]
theorem ok_impl_profitsOf : FnOk Try.prog 49 67 c_impl_profitsOf r_impl_profitsOf := ⟨⟨Try.f49, _, Try.func49, by kernel_rfl, rfl, rfl, by kernel_rfl, by kernel_rfl⟩⟩
def c_spec_l10Both : ACode := .seq (.reg [⟨(some 2), .box 26 (.tmp 0), none⟩,
  ⟨(some 3), .box 28 (.tmp 1), none⟩,
  ⟨(some 4), .mv (.const (.bool false)), none⟩])
 (.seq (.reg [⟨(some 5), .ld (some 4) (.tmp 2), none⟩,
  ⟨(some 6), .call (.func 55) [(.tmp 5)], none⟩,
  ⟨(some 7), .mv (.tmp 6), none⟩,
  ⟨(some 8), .ld (some 3) (.tmp 3), (some (7, true))⟩,
  ⟨(some 9), .call (.func 72) [(.tmp 8)], (some (7, true))⟩,
  ⟨(some 10), .pick (.tmp 7) (.tmp 9) (.const (.bool false)), none⟩,
  ⟨(some 4), .mv (.tmp 10), none⟩])
 (.ret))
def r_spec_l10Both : List ARes := [.tmp 4]
theorem ok_spec_l10Both : FnOk Try.prog 50 11 c_spec_l10Both r_spec_l10Both := ⟨⟨Try.f50, _, Try.func50, by kernel_rfl, rfl, rfl, by kernel_rfl, by kernel_rfl⟩⟩
def c_spec_l10Seller : ACode := .seq (.reg [⟨(some 3), .box 26 (.tmp 0), none⟩,
  ⟨(some 4), .box 28 (.tmp 1), none⟩,
  ⟨(some 6), .mv (.const (.int .i64 0)), none⟩])
 (.seq (.reg [⟨(some 9), .ld (some 4) (.tmp 3), none⟩,
  ⟨(some 10), .mv (.tmp 2), none⟩,
  ⟨(some 12), .fad 0 (.tmp 3), none⟩,
  ⟨(some 13), .ld none (.tmp 12), none⟩,
  ⟨(some 15), .mv (.tmp 2), none⟩,
  ⟨(some 11), .rcall (.func 58) [(.tmp 9), (.tmp 10)], none⟩,
  ⟨(some 14), .rcall (.func 66) [(.tmp 13)], none⟩,
  ⟨(some 16), .bin .mul (.tmp 14) (.tmp 15), none⟩,
  ⟨(some 7), .mv (.tmp 11), none⟩,
  ⟨(some 8), .mv (.tmp 16), none⟩])
 (.seq (.reg [⟨(some 17), .fad 2 (.tmp 4), none⟩,
  ⟨(some 18), .ld none (.tmp 17), none⟩,
  ⟨(some 19), .fad 1 (.tmp 3), none⟩,
  ⟨(some 20), .ld none (.tmp 19), none⟩,
  ⟨(some 21), .bin .mul (.tmp 18) (.tmp 20), none⟩,
  ⟨(some 22), .mv (.tmp 7), none⟩,
  ⟨(some 23), .bin .mul (.tmp 21) (.tmp 22), none⟩,
  ⟨(some 24), .fad 3 (.tmp 3), none⟩,
  ⟨(some 25), .ld none (.tmp 24), none⟩,
  ⟨(some 26), .fad 1 (.tmp 4), none⟩,
  ⟨(some 27), .ld none (.tmp 26), none⟩,
  ⟨(some 28), .bin .add (.tmp 25) (.tmp 27), none⟩,
  ⟨(some 29), .mv (.tmp 8), none⟩,
  ⟨(some 30), .mv (.tmp 7), none⟩,
  ⟨(some 31), .bin .sub (.tmp 29) (.tmp 30), none⟩,
  ⟨(some 32), .bin .mul (.tmp 28) (.tmp 31), none⟩,
  ⟨(some 33), .fad 0 (.tmp 4), none⟩,
  ⟨(some 34), .ld none (.tmp 33), none⟩,
  ⟨(some 35), .mv (.tmp 8), none⟩,
  ⟨(some 36), .bin .mul (.tmp 34) (.tmp 35), none⟩,
  ⟨(some 37), .bin .sub (.tmp 32) (.tmp 36), none⟩,
  ⟨(some 38), .bin .mul (.const (.int .i64 100)) (.tmp 37), none⟩,
  ⟨(some 39), .bin .add (.tmp 23) (.tmp 38), none⟩,
  ⟨(some 6), .mv (.tmp 39), none⟩])
 (.ret)))
def r_spec_l10Seller : List ARes := [.tmp 6]
theorem ok_spec_l10Seller : FnOk Try.prog 52 40 c_spec_l10Seller r_spec_l10Seller := ⟨⟨Try.f52, _, Try.func52, by kernel_rfl, rfl, rfl, by kernel_rfl, by kernel_rfl⟩⟩
def c_impl_jointProfit : ACode := .seq (.reg [⟨(some 2), .box 26 (.tmp 0), none⟩,
  ⟨(some 4), .mv (.const (.int .i64 0)), none⟩])
 (.seq (.reg [⟨(some 8), .ld (some 4) (.tmp 2), none⟩,
  ⟨(some 9), .bld [(.int .i64 0), (.int .i64 0), (.int .i64 0)] [], none⟩,
  ⟨(some 10), .mv (.tmp 1), none⟩,
  ⟨(some 11), .call (.func 49) [(.tmp 8), (.tmp 9), (.tmp 10)], none⟩,
  ⟨(some 7), .mv (.tmp 11), none⟩,
  ⟨(some 12), .ext 0 (.tmp 7), none⟩,
  ⟨(some 13), .ext 1 (.tmp 7), none⟩,
  ⟨(some 5), .mv (.tmp 12), none⟩,
  ⟨(some 6), .mv (.tmp 13), none⟩])
 (.seq (.reg [⟨(some 14), .mv (.tmp 5), none⟩,
  ⟨(some 15), .mv (.tmp 6), none⟩,
  ⟨(some 16), .bin .add (.tmp 14) (.tmp 15), none⟩,
  ⟨(some 4), .mv (.tmp 16), none⟩])
 (.ret)))
def r_impl_jointProfit : List ARes := [.tmp 4]
theorem ok_impl_jointProfit : FnOk Try.prog 54 17 c_impl_jointProfit r_impl_jointProfit := ⟨⟨Try.f54, _, Try.func54, by kernel_rfl, rfl, rfl, by kernel_rfl, by kernel_rfl⟩⟩
def c_spec_l10Market : ACode := .seq (.reg [⟨(some 1), .box 26 (.tmp 0), none⟩,
  ⟨(some 2), .mv (.const (.bool false)), none⟩])
 (.seq (.reg [⟨(some 3), .fad 0 (.tmp 1), none⟩,
  ⟨(some 4), .ld none (.tmp 3), none⟩,
  ⟨(some 5), .len (.tmp 4), none⟩,
  ⟨(some 6), .call (.func 79) [(.tmp 5), (.const (.int .i64 1)), (.const (.int .i64 9))], none⟩,
  ⟨(some 7), .mv (.tmp 6), none⟩,
  ⟨(some 8), .fad 0 (.tmp 1), (some (7, true))⟩,
  ⟨(some 9), .ld none (.tmp 8), (some (7, true))⟩,
  ⟨(some 10), .fad 0 (.tmp 1), (some (7, true))⟩,
  ⟨(some 11), .ld none (.tmp 10), (some (7, true))⟩,
  ⟨(some 12), .len (.tmp 11), (some (7, true))⟩,
  ⟨(some 13), .call (.func 84) [(.tmp 9), (.tmp 12), (.const (.int .i64 4))], (some (7, true))⟩,
  ⟨(some 14), .pick (.tmp 7) (.tmp 13) (.const (.bool false)), none⟩,
  ⟨(some 15), .mv (.tmp 14), none⟩,
  ⟨(some 16), .fad 0 (.tmp 1), (some (15, true))⟩,
  ⟨(some 17), .ld none (.tmp 16), (some (15, true))⟩,
  ⟨(some 18), .call (.func 66) [(.tmp 17)], (some (15, true))⟩,
  ⟨(some 19), .bin .gtr (.tmp 18) (.const (.int .i64 0)), (some (15, true))⟩,
  ⟨(some 20), .pick (.tmp 15) (.tmp 19) (.const (.bool false)), none⟩,
  ⟨(some 21), .mv (.tmp 20), none⟩,
  ⟨(some 22), .fad 1 (.tmp 1), (some (21, true))⟩,
  ⟨(some 23), .ld none (.tmp 22), (some (21, true))⟩,
  ⟨(some 24), .call (.func 79) [(.tmp 23), (.const (.int .i64 1)), (.const (.int .i64 99))], (some (21, true))⟩,
  ⟨(some 25), .pick (.tmp 21) (.tmp 24) (.const (.bool false)), none⟩,
  ⟨(some 26), .mv (.tmp 25), none⟩,
  ⟨(some 27), .fad 2 (.tmp 1), (some (26, true))⟩,
  ⟨(some 28), .ld none (.tmp 27), (some (26, true))⟩,
  ⟨(some 29), .fad 1 (.tmp 1), (some (26, true))⟩,
  ⟨(some 30), .ld none (.tmp 29), (some (26, true))⟩,
  ⟨(some 31), .call (.func 79) [(.tmp 28), (.const (.int .i64 0)), (.tmp 30)], (some (26, true))⟩,
  ⟨(some 32), .pick (.tmp 26) (.tmp 31) (.const (.bool false)), none⟩,
  ⟨(some 33), .mv (.tmp 32), none⟩,
  ⟨(some 34), .fad 3 (.tmp 1), (some (33, true))⟩,
  ⟨(some 35), .ld none (.tmp 34), (some (33, true))⟩,
  ⟨(some 36), .fad 2 (.tmp 1), (some (33, true))⟩,
  ⟨(some 37), .ld none (.tmp 36), (some (33, true))⟩,
  ⟨(some 38), .call (.func 79) [(.tmp 35), (.const (.int .i64 0)), (.tmp 37)], (some (33, true))⟩,
  ⟨(some 39), .pick (.tmp 33) (.tmp 38) (.const (.bool false)), none⟩,
  ⟨(some 2), .mv (.tmp 39), none⟩])
 (.ret))
def r_spec_l10Market : List ARes := [.tmp 2]
theorem ok_spec_l10Market : FnOk Try.prog 55 40 c_spec_l10Market r_spec_l10Market := ⟨⟨Try.f55, _, Try.func55, by kernel_rfl, rfl, rfl, by kernel_rfl, by kernel_rfl⟩⟩
def c_spec_l10Joint : ACode := .seq (.reg [⟨(some 2), .box 26 (.tmp 0), none⟩,
  ⟨(some 4), .mv (.const (.int .i64 0)), none⟩])
 (.seq (.reg [⟨(some 7), .ld (some 4) (.tmp 2), none⟩,
  ⟨(some 8), .mv (.tmp 1), none⟩,
  ⟨(some 10), .fad 0 (.tmp 2), none⟩,
  ⟨(some 11), .ld none (.tmp 10), none⟩,
  ⟨(some 13), .mv (.tmp 1), none⟩,
  ⟨(some 9), .rcall (.func 58) [(.tmp 7), (.tmp 8)], none⟩,
  ⟨(some 12), .rcall (.func 66) [(.tmp 11)], none⟩,
  ⟨(some 14), .bin .mul (.tmp 12) (.tmp 13), none⟩,
  ⟨(some 5), .mv (.tmp 9), none⟩,
  ⟨(some 6), .mv (.tmp 14), none⟩])
 (.seq (.reg [⟨(some 15), .fad 1 (.tmp 2), none⟩,
  ⟨(some 16), .ld none (.tmp 15), none⟩,
  ⟨(some 17), .mv (.tmp 5), none⟩,
  ⟨(some 18), .bin .mul (.tmp 16) (.tmp 17), none⟩,
  ⟨(some 19), .fad 3 (.tmp 2), none⟩,
  ⟨(some 20), .ld none (.tmp 19), none⟩,
  ⟨(some 21), .mv (.tmp 6), none⟩,
  ⟨(some 22), .mv (.tmp 5), none⟩,
  ⟨(some 23), .bin .sub (.tmp 21) (.tmp 22), none⟩,
  ⟨(some 24), .bin .mul (.tmp 20) (.tmp 23), none⟩,
  ⟨(some 25), .bin .add (.tmp 18) (.tmp 24), none⟩,
  ⟨(some 26), .fad 2 (.tmp 2), none⟩,
  ⟨(some 27), .ld none (.tmp 26), none⟩,
  ⟨(some 28), .mv (.tmp 6), none⟩,
  ⟨(some 29), .bin .mul (.tmp 27) (.tmp 28), none⟩,
  ⟨(some 30), .bin .sub (.tmp 25) (.tmp 29), none⟩,
  ⟨(some 31), .bin .mul (.const (.int .i64 100)) (.tmp 30), none⟩,
  ⟨(some 4), .mv (.tmp 31), none⟩])
 (.ret)))
def r_spec_l10Joint : List ARes := [.tmp 4]
theorem ok_spec_l10Joint : FnOk Try.prog 56 32 c_spec_l10Joint r_spec_l10Joint := ⟨⟨Try.f56, _, Try.func56, by kernel_rfl, rfl, rfl, by kernel_rfl, by kernel_rfl⟩⟩
def c_impl_salesOf : ACode := .seq (.reg [⟨(some 2), .box 26 (.tmp 0), none⟩,
  ⟨(some 4), .mv (.const (.int .i64 0)), none⟩,
  ⟨(some 5), .mv (.const (.int .i64 0)), none⟩])
 (.seq (.reg [⟨(some 7), .fad 0 (.tmp 2), none⟩,
  ⟨(some 8), .ld none (.tmp 7), none⟩,
  ⟨(some 9), .call (.func 85) [(.tmp 8)], none⟩,
  ⟨(some 10), .mv (.tmp 1), none⟩,
  ⟨(some 11), .call (.func 86) [(.tmp 9), (.tmp 10)], none⟩,
  ⟨(some 6), .mv (.tmp 11), none⟩])
 (.seq (.reg [⟨(some 12), .mv (.tmp 6), none⟩,
  ⟨(some 13), .fad 0 (.tmp 2), none⟩,
  ⟨(some 14), .ld none (.tmp 13), none⟩,
  ⟨(some 15), .call (.func 87) [(.tmp 14)], none⟩,
  ⟨(some 16), .mv (.tmp 1), none⟩,
  ⟨(some 17), .bin .mul (.tmp 15) (.tmp 16), none⟩,
  ⟨(some 18), .mv (.tmp 6), none⟩,
  ⟨(some 19), .bin .sub (.tmp 17) (.tmp 18), none⟩,
  ⟨(some 4), .mv (.tmp 12), none⟩,
  ⟨(some 5), .mv (.tmp 19), none⟩])
 (.ret)))
def r_impl_salesOf : List ARes := [.tmp 4, .tmp 5]
theorem ok_impl_salesOf : FnOk Try.prog 57 20 c_impl_salesOf r_impl_salesOf := ⟨⟨Try.f57, _, Try.func57, by kernel_rfl, rfl, rfl, by kernel_rfl, by kernel_rfl⟩⟩
def c_spec_l10Sales : ACode := .seq (.reg [⟨(some 2), .box 26 (.tmp 0), none⟩,
  ⟨(some 4), .mv (.const (.int .i64 0)), none⟩])
 (.seq (.reg [⟨(some 5), .mv (.const (.int .i64 0)), none⟩])
 (.seq (.seq (.reg [⟨(some 6), .mv (.const (.int .i64 0)), none⟩])
 (.block 0 (.loop (.seq (.seq (.reg [⟨(some 7), .mv (.tmp 6), none⟩,
  ⟨(some 8), .fad 0 (.tmp 2), none⟩,
  ⟨(some 9), .ld none (.tmp 8), none⟩,
  ⟨(some 10), .len (.tmp 9), none⟩,
  ⟨(some 11), .bin .lss (.tmp 7) (.tmp 10), none⟩])
 (.cond (.tmp 11) (.skip) (.exit 0)))
 (.seq (.block 1 (.reg [⟨(some 14), .mv (.tmp 5), none⟩,
  ⟨(some 15), .fad 0 (.tmp 2), none⟩,
  ⟨(some 16), .ld none (.tmp 15), none⟩,
  ⟨(some 17), .mv (.tmp 6), none⟩,
  ⟨(some 18), .iad 1 (.tmp 16) (.tmp 17), none⟩,
  ⟨(some 19), .ld none (.tmp 18), none⟩,
  ⟨(some 20), .mv (.tmp 1), none⟩,
  ⟨(some 21), .mv (.tmp 6), none⟩,
  ⟨(some 22), .rcall (.func 81) [(.tmp 20), (.tmp 21)], none⟩,
  ⟨(some 23), .bin .mul (.tmp 19) (.tmp 22), none⟩,
  ⟨(some 24), .bin .add (.tmp 14) (.tmp 23), none⟩,
  ⟨(some 5), .mv (.tmp 24), none⟩]))
 (.reg [⟨(some 12), .mv (.tmp 6), none⟩,
  ⟨(some 13), .bin .add (.tmp 12) (.const (.int .i64 1)), none⟩,
  ⟨(some 6), .mv (.tmp 13), none⟩]))))))
 (.seq (.reg [⟨(some 25), .mv (.tmp 5), none⟩,
  ⟨(some 4), .mv (.tmp 25), none⟩])
 (.ret))))
def r_spec_l10Sales : List ARes := [.tmp 4]
theorem ok_spec_l10Sales : FnOk Try.prog 58 26 c_spec_l10Sales r_spec_l10Sales := ⟨⟨Try.f58, _, Try.func58, by kernel_rfl, rfl, rfl, by kernel_rfl, by kernel_rfl⟩⟩
def c_impl_jointProfits : ACode := .seq (.reg [⟨(some 1), .box 26 (.tmp 0), none⟩,
  ⟨(some 2), .mv (.const (.slice none 0 0)), none⟩])
 (.seq (.reg [⟨(some 5), .bsl 3 1 0 [] [], none⟩,
  ⟨(some 3), .mv (.tmp 5), none⟩])
 (.seq (.seq (.reg [⟨(some 6), .mv (.const (.int .i64 0)), none⟩])
 (.block 0 (.loop (.seq (.reg [⟨(some 7), .bin .lss (.tmp 6) (.const (.int .i64 9)), none⟩])
 (.seq (.cond (.tmp 7) (.skip) (.exit 0))
 (.seq (.block 1 (.seq (.reg [⟨(some 8), .mv (.tmp 6), none⟩,
  ⟨(some 4), .mv (.tmp 8), none⟩])
 (.reg [⟨(some 9), .mv (.tmp 3), none⟩,
  ⟨(some 10), .ld (some 4) (.tmp 1), none⟩,
  ⟨(some 11), .mv (.tmp 4), none⟩,
  ⟨(some 12), .call (.func 54) [(.tmp 10), (.tmp 11)], none⟩,
  ⟨(some 13), .bsl 3 1 1 [(.int .i64 0)] [(0, 1, (.tmp 12))], none⟩,
  ⟨(some 14), .app 3 1 8 (.tmp 9) (.tmp 13), none⟩,
  ⟨(some 3), .mv (.tmp 14), none⟩])))
 (.reg [⟨(some 15), .bin .add (.tmp 6) (.const (.int .i64 1)), none⟩,
  ⟨(some 6), .mv (.tmp 15), none⟩])))))))
 (.seq (.reg [⟨(some 16), .mv (.tmp 3), none⟩,
  ⟨(some 2), .mv (.tmp 16), none⟩])
 (.ret))))
def r_impl_jointProfits : List ARes := [.tmp 2]
theorem ok_impl_jointProfits : FnOk Try.prog 59 17 c_impl_jointProfits r_impl_jointProfits := ⟨⟨Try.f59, _, Try.func59, by kernel_rfl, rfl, rfl, by kernel_rfl, by kernel_rfl⟩⟩
def c_impl_areWeights : ACode := .seq (.reg [⟨(some 6), .mv (.const (.bool false)), none⟩])
 (.seq (.reg [⟨(some 7), .mv (.tmp 0), none⟩,
  ⟨(some 8), .len (.tmp 7), none⟩,
  ⟨(some 9), .mv (.tmp 1), none⟩,
  ⟨(some 10), .bin .leq (.tmp 8) (.tmp 9), none⟩,
  ⟨(some 11), .mv (.tmp 10), none⟩,
  ⟨(some 12), .mv (.tmp 0), (some (11, true))⟩,
  ⟨(some 13), .mv (.tmp 0), (some (11, true))⟩,
  ⟨(some 14), .len (.tmp 13), (some (11, true))⟩,
  ⟨(some 15), .mv (.tmp 2), (some (11, true))⟩,
  ⟨(some 16), .call (.func 88) [(.tmp 12), (.tmp 14), (.tmp 15)], (some (11, true))⟩,
  ⟨(some 17), .pick (.tmp 11) (.tmp 16) (.const (.bool false)), none⟩,
  ⟨(some 18), .mv (.tmp 17), none⟩,
  ⟨(some 19), .mv (.tmp 0), (some (18, true))⟩,
  ⟨(some 20), .call (.func 87) [(.tmp 19)], (some (18, true))⟩,
  ⟨(some 21), .bin .gtr (.tmp 20) (.const (.int .i64 0)), (some (18, true))⟩,
  ⟨(some 22), .pick (.tmp 18) (.tmp 21) (.const (.bool false)), none⟩,
  ⟨(some 6), .mv (.tmp 22), none⟩])
 (.ret))
def r_impl_areWeights : List ARes := [.tmp 6]
theorem ok_impl_areWeights : FnOk Try.prog 60 23 c_impl_areWeights r_impl_areWeights := ⟨⟨Try.f60, _, Try.func60, by kernel_rfl, rfl, rfl, by kernel_rfl, by kernel_rfl⟩⟩
def c_impl_isCount : ACode := .seq (.reg [⟨(some 4), .mv (.const (.bool false)), none⟩])
 (.seq (.reg [⟨(some 5), .mv (.tmp 0), none⟩,
  ⟨(some 6), .bin .gtr (.tmp 5) (.const (.int .i64 0)), none⟩,
  ⟨(some 7), .mv (.tmp 6), none⟩,
  ⟨(some 8), .mv (.tmp 0), (some (7, true))⟩,
  ⟨(some 9), .mv (.tmp 1), (some (7, true))⟩,
  ⟨(some 10), .call (.func 62) [(.tmp 8), (.tmp 9)], (some (7, true))⟩,
  ⟨(some 11), .pick (.tmp 7) (.tmp 10) (.const (.bool false)), none⟩,
  ⟨(some 4), .mv (.tmp 11), none⟩])
 (.ret))
def r_impl_isCount : List ARes := [.tmp 4]
theorem ok_impl_isCount : FnOk Try.prog 61 12 c_impl_isCount r_impl_isCount := ⟨⟨Try.f61, _, Try.func61, by kernel_rfl, rfl, rfl, by kernel_rfl, by kernel_rfl⟩⟩
def c_impl_isWithin : ACode := .seq (.reg [⟨(some 4), .mv (.const (.bool false)), none⟩])
 (.seq (.reg [⟨(some 5), .mv (.tmp 0), none⟩,
  ⟨(some 6), .bin .geq (.tmp 5) (.const (.int .i64 0)), none⟩,
  ⟨(some 7), .mv (.tmp 6), none⟩,
  ⟨(some 8), .mv (.tmp 0), (some (7, true))⟩,
  ⟨(some 9), .mv (.tmp 1), (some (7, true))⟩,
  ⟨(some 10), .bin .leq (.tmp 8) (.tmp 9), (some (7, true))⟩,
  ⟨(some 11), .pick (.tmp 7) (.tmp 10) (.const (.bool false)), none⟩,
  ⟨(some 4), .mv (.tmp 11), none⟩])
 (.ret))
def r_impl_isWithin : List ARes := [.tmp 4]
theorem ok_impl_isWithin : FnOk Try.prog 62 12 c_impl_isWithin r_impl_isWithin := ⟨⟨Try.f62, _, Try.func62, by kernel_rfl, rfl, rfl, by kernel_rfl, by kernel_rfl⟩⟩
def c_impl_firstGreatest : ACode := .seq (.reg [⟨(some 2), .mv (.const (.int .i64 0)), none⟩,
  ⟨(some 3), .mv (.const (.int .i64 0)), none⟩])
 (.seq (.reg [⟨(some 5), .mv (.tmp 0), none⟩,
  ⟨(some 6), .call (.func 89) [(.tmp 5)], none⟩,
  ⟨(some 4), .mv (.tmp 6), none⟩])
 (.seq (.reg [⟨(some 7), .mv (.tmp 0), none⟩,
  ⟨(some 8), .mv (.tmp 4), none⟩,
  ⟨(some 9), .call (.func 90) [(.tmp 7), (.tmp 8)], none⟩,
  ⟨(some 10), .mv (.tmp 4), none⟩,
  ⟨(some 2), .mv (.tmp 9), none⟩,
  ⟨(some 3), .mv (.tmp 10), none⟩])
 (.ret)))
def r_impl_firstGreatest : List ARes := [.tmp 2, .tmp 3]
theorem ok_impl_firstGreatest : FnOk Try.prog 63 11 c_impl_firstGreatest r_impl_firstGreatest := ⟨⟨Try.f63, _, Try.func63, by kernel_rfl, rfl, rfl, by kernel_rfl, by kernel_rfl⟩⟩
def c_spec_l10Best : ACode := .seq (.reg [⟨(some 1), .box 26 (.tmp 0), none⟩,
  ⟨(some 2), .mv (.const (.int .i64 0)), none⟩])
 (.seq (.reg [⟨(some 3), .mv (.const (.int .i64 0)), none⟩])
 (.seq (.seq (.reg [⟨(some 4), .mv (.const (.int .i64 1)), none⟩])
 (.block 0 (.loop (.seq (.seq (.reg [⟨(some 5), .mv (.tmp 4), none⟩,
  ⟨(some 6), .bin .leq (.tmp 5) (.const (.int .i64 8)), none⟩])
 (.cond (.tmp 6) (.skip) (.exit 0)))
 (.seq (.block 1 (.seq (.reg [⟨(some 9), .ld (some 4) (.tmp 1), none⟩,
  ⟨(some 10), .mv (.tmp 4), none⟩,
  ⟨(some 12), .ld (some 4) (.tmp 1), none⟩,
  ⟨(some 13), .mv (.tmp 3), none⟩,
  ⟨(some 11), .rcall (.func 56) [(.tmp 9), (.tmp 10)], none⟩,
  ⟨(some 14), .rcall (.func 56) [(.tmp 12), (.tmp 13)], none⟩,
  ⟨(some 15), .bin .gtr (.tmp 11) (.tmp 14), none⟩])
 (.cond (.tmp 15) (.reg [⟨(some 16), .mv (.tmp 4), none⟩,
  ⟨(some 3), .mv (.tmp 16), none⟩]) (.skip))))
 (.reg [⟨(some 7), .mv (.tmp 4), none⟩,
  ⟨(some 8), .bin .add (.tmp 7) (.const (.int .i64 1)), none⟩,
  ⟨(some 4), .mv (.tmp 8), none⟩]))))))
 (.seq (.reg [⟨(some 17), .mv (.tmp 3), none⟩,
  ⟨(some 2), .mv (.tmp 17), none⟩])
 (.ret))))
def r_spec_l10Best : List ARes := [.tmp 2]
theorem ok_spec_l10Best : FnOk Try.prog 64 18 c_spec_l10Best r_spec_l10Best := ⟨⟨Try.f64, _, Try.func64, by kernel_rfl, rfl, rfl, by kernel_rfl, by kernel_rfl⟩⟩
def c_spec_l2Sum : ACode := .seq (.reg [⟨(some 2), .mv (.const (.int .i64 0)), none⟩])
 (.seq (.reg [⟨(some 3), .mv (.const (.int .i64 0)), none⟩])
 (.seq (.seq (.reg [⟨(some 4), .mv (.const (.int .i64 0)), none⟩])
 (.block 0 (.loop (.seq (.seq (.reg [⟨(some 5), .mv (.tmp 4), none⟩,
  ⟨(some 6), .mv (.tmp 0), none⟩,
  ⟨(some 7), .len (.tmp 6), none⟩,
  ⟨(some 8), .bin .lss (.tmp 5) (.tmp 7), none⟩])
 (.cond (.tmp 8) (.skip) (.exit 0)))
 (.seq (.block 1 (.reg [⟨(some 11), .mv (.tmp 3), none⟩,
  ⟨(some 12), .mv (.tmp 0), none⟩,
  ⟨(some 13), .mv (.tmp 4), none⟩,
  ⟨(some 14), .iad 1 (.tmp 12) (.tmp 13), none⟩,
  ⟨(some 15), .ld none (.tmp 14), none⟩,
  ⟨(some 16), .bin .add (.tmp 11) (.tmp 15), none⟩,
  ⟨(some 3), .mv (.tmp 16), none⟩]))
 (.reg [⟨(some 9), .mv (.tmp 4), none⟩,
  ⟨(some 10), .bin .add (.tmp 9) (.const (.int .i64 1)), none⟩,
  ⟨(some 4), .mv (.tmp 10), none⟩]))))))
 (.seq (.reg [⟨(some 17), .mv (.tmp 3), none⟩,
  ⟨(some 2), .mv (.tmp 17), none⟩])
 (.ret))))
def r_spec_l2Sum : List ARes := [.tmp 2]
theorem ok_spec_l2Sum : FnOk Try.prog 66 18 c_spec_l2Sum r_spec_l2Sum := ⟨⟨Try.f66, _, Try.func66, by kernel_rfl, rfl, rfl, by kernel_rfl, by kernel_rfl⟩⟩
def c_impl_isInProportion : ACode := .seq (.reg [⟨(some 2), .box 26 (.tmp 0), none⟩,
  ⟨(some 3), .box 28 (.tmp 1), none⟩,
  ⟨(some 4), .mv (.const (.bool false)), none⟩])
 (.seq (.reg [⟨(some 7), .fad 3 (.tmp 2), none⟩,
  ⟨(some 8), .ld none (.tmp 7), none⟩,
  ⟨(some 9), .fad 1 (.tmp 3), none⟩,
  ⟨(some 10), .ld none (.tmp 9), none⟩,
  ⟨(some 11), .bin .add (.tmp 8) (.tmp 10), none⟩,
  ⟨(some 5), .mv (.tmp 11), none⟩])
 (.seq (.reg [⟨(some 12), .fad 2 (.tmp 3), none⟩,
  ⟨(some 13), .ld none (.tmp 12), none⟩,
  ⟨(some 14), .fad 1 (.tmp 2), none⟩,
  ⟨(some 15), .ld none (.tmp 14), none⟩,
  ⟨(some 16), .bin .mul (.tmp 13) (.tmp 15), none⟩,
  ⟨(some 17), .mv (.tmp 5), none⟩,
  ⟨(some 18), .bin .mul (.const (.int .i64 100)) (.tmp 17), none⟩,
  ⟨(some 19), .bin .sub (.tmp 16) (.tmp 18), none⟩,
  ⟨(some 6), .mv (.tmp 19), none⟩])
 (.seq (.reg [⟨(some 20), .mv (.tmp 6), none⟩,
  ⟨(some 21), .bin .gtr (.tmp 20) (.const (.int .i64 0)), none⟩,
  ⟨(some 22), .mv (.tmp 21), none⟩,
  ⟨(some 23), .mv (.tmp 6), (some (22, true))⟩,
  ⟨(some 24), .fad 3 (.tmp 2), (some (22, true))⟩,
  ⟨(some 25), .ld none (.tmp 24), (some (22, true))⟩,
  ⟨(some 26), .fad 2 (.tmp 2), (some (22, true))⟩,
  ⟨(some 27), .ld none (.tmp 26), (some (22, true))⟩,
  ⟨(some 28), .bin .sub (.tmp 25) (.tmp 27), (some (22, true))⟩,
  ⟨(some 29), .bin .mul (.tmp 23) (.tmp 28), (some (22, true))⟩,
  ⟨(some 30), .mv (.tmp 5), (some (22, true))⟩,
  ⟨(some 31), .fad 0 (.tmp 3), (some (22, true))⟩,
  ⟨(some 32), .ld none (.tmp 31), (some (22, true))⟩,
  ⟨(some 33), .bin .sub (.tmp 30) (.tmp 32), (some (22, true))⟩,
  ⟨(some 34), .bin .mul (.const (.int .i64 100)) (.tmp 33), (some (22, true))⟩,
  ⟨(some 35), .fad 1 (.tmp 2), (some (22, true))⟩,
  ⟨(some 36), .ld none (.tmp 35), (some (22, true))⟩,
  ⟨(some 37), .fad 3 (.tmp 2), (some (22, true))⟩,
  ⟨(some 38), .ld none (.tmp 37), (some (22, true))⟩,
  ⟨(some 39), .bin .sub (.tmp 36) (.tmp 38), (some (22, true))⟩,
  ⟨(some 40), .bin .mul (.tmp 34) (.tmp 39), (some (22, true))⟩,
  ⟨(some 41), .bin .eql (.tmp 29) (.tmp 40), (some (22, true))⟩,
  ⟨(some 42), .pick (.tmp 22) (.tmp 41) (.const (.bool false)), none⟩,
  ⟨(some 4), .mv (.tmp 42), none⟩])
 (.ret))))
def r_impl_isInProportion : List ARes := [.tmp 4]
theorem ok_impl_isInProportion : FnOk Try.prog 70 43 c_impl_isInProportion r_impl_isInProportion := ⟨⟨Try.f70, _, Try.func70, by kernel_rfl, rfl, rfl, by kernel_rfl, by kernel_rfl⟩⟩
def c_spec_l10Proportion : ACode := .seq (.reg [⟨(some 2), .box 26 (.tmp 0), none⟩,
  ⟨(some 3), .box 28 (.tmp 1), none⟩,
  ⟨(some 4), .mv (.const (.bool false)), none⟩])
 (.seq (.reg [⟨(some 6), .fad 2 (.tmp 3), none⟩,
  ⟨(some 7), .ld none (.tmp 6), none⟩,
  ⟨(some 8), .fad 1 (.tmp 2), none⟩,
  ⟨(some 9), .ld none (.tmp 8), none⟩,
  ⟨(some 10), .bin .mul (.tmp 7) (.tmp 9), none⟩,
  ⟨(some 11), .fad 3 (.tmp 2), none⟩,
  ⟨(some 12), .ld none (.tmp 11), none⟩,
  ⟨(some 13), .fad 1 (.tmp 3), none⟩,
  ⟨(some 14), .ld none (.tmp 13), none⟩,
  ⟨(some 15), .bin .add (.tmp 12) (.tmp 14), none⟩,
  ⟨(some 16), .bin .mul (.const (.int .i64 100)) (.tmp 15), none⟩,
  ⟨(some 17), .bin .sub (.tmp 10) (.tmp 16), none⟩,
  ⟨(some 5), .mv (.tmp 17), none⟩])
 (.seq (.reg [⟨(some 18), .mv (.tmp 5), none⟩,
  ⟨(some 19), .bin .gtr (.tmp 18) (.const (.int .i64 0)), none⟩,
  ⟨(some 20), .mv (.tmp 19), none⟩,
  ⟨(some 21), .mv (.tmp 5), (some (20, true))⟩,
  ⟨(some 22), .fad 3 (.tmp 2), (some (20, true))⟩,
  ⟨(some 23), .ld none (.tmp 22), (some (20, true))⟩,
  ⟨(some 24), .fad 2 (.tmp 2), (some (20, true))⟩,
  ⟨(some 25), .ld none (.tmp 24), (some (20, true))⟩,
  ⟨(some 26), .bin .sub (.tmp 23) (.tmp 25), (some (20, true))⟩,
  ⟨(some 27), .bin .mul (.tmp 21) (.tmp 26), (some (20, true))⟩,
  ⟨(some 28), .fad 3 (.tmp 2), (some (20, true))⟩,
  ⟨(some 29), .ld none (.tmp 28), (some (20, true))⟩,
  ⟨(some 30), .fad 1 (.tmp 3), (some (20, true))⟩,
  ⟨(some 31), .ld none (.tmp 30), (some (20, true))⟩,
  ⟨(some 32), .bin .add (.tmp 29) (.tmp 31), (some (20, true))⟩,
  ⟨(some 33), .fad 0 (.tmp 3), (some (20, true))⟩,
  ⟨(some 34), .ld none (.tmp 33), (some (20, true))⟩,
  ⟨(some 35), .bin .sub (.tmp 32) (.tmp 34), (some (20, true))⟩,
  ⟨(some 36), .bin .mul (.const (.int .i64 100)) (.tmp 35), (some (20, true))⟩,
  ⟨(some 37), .fad 1 (.tmp 2), (some (20, true))⟩,
  ⟨(some 38), .ld none (.tmp 37), (some (20, true))⟩,
  ⟨(some 39), .fad 3 (.tmp 2), (some (20, true))⟩,
  ⟨(some 40), .ld none (.tmp 39), (some (20, true))⟩,
  ⟨(some 41), .bin .sub (.tmp 38) (.tmp 40), (some (20, true))⟩,
  ⟨(some 42), .bin .mul (.tmp 36) (.tmp 41), (some (20, true))⟩,
  ⟨(some 43), .bin .eql (.tmp 27) (.tmp 42), (some (20, true))⟩,
  ⟨(some 44), .pick (.tmp 20) (.tmp 43) (.const (.bool false)), none⟩,
  ⟨(some 4), .mv (.tmp 44), none⟩])
 (.ret)))
def r_spec_l10Proportion : List ARes := [.tmp 4]
theorem ok_spec_l10Proportion : FnOk Try.prog 71 45 c_spec_l10Proportion r_spec_l10Proportion := ⟨⟨Try.f71, _, Try.func71, by kernel_rfl, rfl, rfl, by kernel_rfl, by kernel_rfl⟩⟩
def c_spec_l10Contract : ACode := .seq (.reg [⟨(some 1), .box 28 (.tmp 0), none⟩,
  ⟨(some 2), .mv (.const (.bool false)), none⟩])
 (.seq (.reg [⟨(some 3), .fad 0 (.tmp 1), none⟩,
  ⟨(some 4), .ld none (.tmp 3), none⟩,
  ⟨(some 5), .call (.func 79) [(.tmp 4), (.const (.int .i64 0)), (.const (.int .i64 99))], none⟩,
  ⟨(some 6), .mv (.tmp 5), none⟩,
  ⟨(some 7), .fad 1 (.tmp 1), (some (6, true))⟩,
  ⟨(some 8), .ld none (.tmp 7), (some (6, true))⟩,
  ⟨(some 9), .call (.func 79) [(.tmp 8), (.const (.int .i64 0)), (.const (.int .i64 99))], (some (6, true))⟩,
  ⟨(some 10), .pick (.tmp 6) (.tmp 9) (.const (.bool false)), none⟩,
  ⟨(some 11), .mv (.tmp 10), none⟩,
  ⟨(some 12), .fad 2 (.tmp 1), (some (11, true))⟩,
  ⟨(some 13), .ld none (.tmp 12), (some (11, true))⟩,
  ⟨(some 14), .call (.func 79) [(.tmp 13), (.const (.int .i64 0)), (.const (.int .i64 100))], (some (11, true))⟩,
  ⟨(some 15), .pick (.tmp 11) (.tmp 14) (.const (.bool false)), none⟩,
  ⟨(some 2), .mv (.tmp 15), none⟩])
 (.ret))
def r_spec_l10Contract : List ARes := [.tmp 2]
theorem ok_spec_l10Contract : FnOk Try.prog 72 16 c_spec_l10Contract r_spec_l10Contract := ⟨⟨Try.f72, _, Try.func72, by kernel_rfl, rfl, rfl, by kernel_rfl, by kernel_rfl⟩⟩
def c_impl_sellerOrder : ACode := .seq (.reg [⟨(some 2), .box 26 (.tmp 0), none⟩,
  ⟨(some 3), .box 28 (.tmp 1), none⟩,
  ⟨(some 4), .mv (.const (.int .i64 0)), none⟩])
 (.seq (.reg [⟨(some 11), .bsl 3 1 0 [] [], none⟩,
  ⟨(some 5), .mv (.tmp 11), none⟩])
 (.seq (.seq (.reg [⟨(some 12), .mv (.const (.int .i64 0)), none⟩])
 (.block 0 (.loop (.seq (.reg [⟨(some 13), .bin .lss (.tmp 12) (.const (.int .i64 9)), none⟩])
 (.seq (.cond (.tmp 13) (.skip) (.exit 0))
 (.seq (.block 1 (.seq (.reg [⟨(some 14), .mv (.tmp 12), none⟩,
  ⟨(some 6), .mv (.tmp 14), none⟩])
 (.seq (.reg [⟨(some 16), .ld (some 4) (.tmp 2), none⟩,
  ⟨(some 17), .ld (some 3) (.tmp 3), none⟩,
  ⟨(some 18), .mv (.tmp 6), none⟩,
  ⟨(some 19), .call (.func 49) [(.tmp 16), (.tmp 17), (.tmp 18)], none⟩,
  ⟨(some 15), .mv (.tmp 19), none⟩,
  ⟨(some 20), .ext 0 (.tmp 15), none⟩,
  ⟨(some 21), .ext 1 (.tmp 15), none⟩,
  ⟨(some 7), .mv (.tmp 20), none⟩,
  ⟨(some 8), .mv (.tmp 21), none⟩])
 (.reg [⟨(some 22), .mv (.tmp 5), none⟩,
  ⟨(some 23), .mv (.tmp 7), none⟩,
  ⟨(some 24), .bsl 3 1 1 [(.int .i64 0)] [(0, 1, (.tmp 23))], none⟩,
  ⟨(some 25), .app 3 1 8 (.tmp 22) (.tmp 24), none⟩,
  ⟨(some 5), .mv (.tmp 25), none⟩]))))
 (.reg [⟨(some 26), .bin .add (.tmp 12) (.const (.int .i64 1)), none⟩,
  ⟨(some 12), .mv (.tmp 26), none⟩])))))))
 (.seq (.reg [⟨(some 28), .mv (.tmp 5), none⟩,
  ⟨(some 29), .call (.func 63) [(.tmp 28)], none⟩,
  ⟨(some 27), .mv (.tmp 29), none⟩,
  ⟨(some 30), .ext 0 (.tmp 27), none⟩,
  ⟨(some 31), .ext 1 (.tmp 27), none⟩,
  ⟨(some 9), .mv (.tmp 30), none⟩,
  ⟨(some 10), .mv (.tmp 31), none⟩])
 (.seq (.reg [⟨(some 32), .mv (.tmp 9), none⟩,
  ⟨(some 4), .mv (.tmp 32), none⟩])
 (.ret)))))
def r_impl_sellerOrder : List ARes := [.tmp 4]
theorem ok_impl_sellerOrder : FnOk Try.prog 73 33 c_impl_sellerOrder r_impl_sellerOrder := ⟨⟨Try.f73, _, Try.func73, by kernel_rfl, rfl, rfl, by kernel_rfl, by kernel_rfl⟩⟩
def c_spec_l10Sold : ACode := .seq (.reg [⟨(some 2), .box 26 (.tmp 0), none⟩,
  ⟨(some 3), .box 28 (.tmp 1), none⟩,
  ⟨(some 4), .mv (.const (.int .i64 0)), none⟩])
 (.seq (.reg [⟨(some 5), .mv (.const (.int .i64 0)), none⟩])
 (.seq (.seq (.reg [⟨(some 6), .mv (.const (.int .i64 1)), none⟩])
 (.block 0 (.loop (.seq (.seq (.reg [⟨(some 7), .mv (.tmp 6), none⟩,
  ⟨(some 8), .bin .leq (.tmp 7) (.const (.int .i64 8)), none⟩])
 (.cond (.tmp 8) (.skip) (.exit 0)))
 (.seq (.block 1 (.seq (.reg [⟨(some 11), .ld (some 4) (.tmp 2), none⟩,
  ⟨(some 12), .ld (some 3) (.tmp 3), none⟩,
  ⟨(some 13), .mv (.tmp 6), none⟩,
  ⟨(some 15), .ld (some 4) (.tmp 2), none⟩,
  ⟨(some 16), .ld (some 3) (.tmp 3), none⟩,
  ⟨(some 17), .mv (.tmp 5), none⟩,
  ⟨(some 14), .rcall (.func 52) [(.tmp 11), (.tmp 12), (.tmp 13)], none⟩,
  ⟨(some 18), .rcall (.func 52) [(.tmp 15), (.tmp 16), (.tmp 17)], none⟩,
  ⟨(some 19), .bin .gtr (.tmp 14) (.tmp 18), none⟩])
 (.cond (.tmp 19) (.reg [⟨(some 20), .mv (.tmp 6), none⟩,
  ⟨(some 5), .mv (.tmp 20), none⟩]) (.skip))))
 (.reg [⟨(some 9), .mv (.tmp 6), none⟩,
  ⟨(some 10), .bin .add (.tmp 9) (.const (.int .i64 1)), none⟩,
  ⟨(some 6), .mv (.tmp 10), none⟩]))))))
 (.seq (.reg [⟨(some 21), .mv (.tmp 5), none⟩,
  ⟨(some 4), .mv (.tmp 21), none⟩])
 (.ret))))
def r_spec_l10Sold : List ARes := [.tmp 4]
theorem ok_spec_l10Sold : FnOk Try.prog 74 22 c_spec_l10Sold r_spec_l10Sold := ⟨⟨Try.f74, _, Try.func74, by kernel_rfl, rfl, rfl, by kernel_rfl, by kernel_rfl⟩⟩
def c_impl_profitLoss : ACode := .seq (.reg [⟨(some 2), .box 26 (.tmp 0), none⟩,
  ⟨(some 3), .box 28 (.tmp 1), none⟩,
  ⟨(some 4), .mv (.const (.int .i64 0)), none⟩])
 (.seq (.reg [⟨(some 8), .ld (some 4) (.tmp 2), none⟩,
  ⟨(some 9), .call (.func 59) [(.tmp 8)], none⟩,
  ⟨(some 10), .call (.func 63) [(.tmp 9)], none⟩,
  ⟨(some 7), .mv (.tmp 10), none⟩,
  ⟨(some 11), .ext 0 (.tmp 7), none⟩,
  ⟨(some 12), .ext 1 (.tmp 7), none⟩,
  ⟨(some 5), .mv (.tmp 11), none⟩,
  ⟨(some 6), .mv (.tmp 12), none⟩])
 (.seq (.reg [⟨(some 13), .mv (.tmp 6), none⟩,
  ⟨(some 14), .ld (some 4) (.tmp 2), none⟩,
  ⟨(some 15), .ld (some 4) (.tmp 2), none⟩,
  ⟨(some 16), .ld (some 3) (.tmp 3), none⟩,
  ⟨(some 17), .rcall (.func 73) [(.tmp 15), (.tmp 16)], none⟩,
  ⟨(some 18), .rcall (.func 54) [(.tmp 14), (.tmp 17)], none⟩,
  ⟨(some 19), .bin .sub (.tmp 13) (.tmp 18), none⟩,
  ⟨(some 4), .mv (.tmp 19), none⟩])
 (.ret)))
def r_impl_profitLoss : List ARes := [.tmp 4]
theorem ok_impl_profitLoss : FnOk Try.prog 75 20 c_impl_profitLoss r_impl_profitLoss := ⟨⟨Try.f75, _, Try.func75, by kernel_rfl, rfl, rfl, by kernel_rfl, by kernel_rfl⟩⟩
def c_spec_l10Loss : ACode := .seq (.reg [⟨(some 2), .box 26 (.tmp 0), none⟩,
  ⟨(some 3), .box 28 (.tmp 1), none⟩,
  ⟨(some 4), .mv (.const (.int .i64 0)), none⟩])
 (.seq (.reg [⟨(some 5), .ld (some 4) (.tmp 2), none⟩,
  ⟨(some 6), .ld (some 4) (.tmp 2), none⟩,
  ⟨(some 9), .ld (some 4) (.tmp 2), none⟩,
  ⟨(some 10), .ld (some 4) (.tmp 2), none⟩,
  ⟨(some 11), .ld (some 3) (.tmp 3), none⟩,
  ⟨(some 7), .rcall (.func 64) [(.tmp 6)], none⟩,
  ⟨(some 8), .rcall (.func 56) [(.tmp 5), (.tmp 7)], none⟩,
  ⟨(some 12), .rcall (.func 74) [(.tmp 10), (.tmp 11)], none⟩,
  ⟨(some 13), .rcall (.func 56) [(.tmp 9), (.tmp 12)], none⟩,
  ⟨(some 14), .bin .sub (.tmp 8) (.tmp 13), none⟩,
  ⟨(some 4), .mv (.tmp 14), none⟩])
 (.ret))
def r_spec_l10Loss : List ARes := [.tmp 4]
theorem ok_spec_l10Loss : FnOk Try.prog 76 15 c_spec_l10Loss r_spec_l10Loss := ⟨⟨Try.f76, _, Try.func76, by kernel_rfl, rfl, rfl, by kernel_rfl, by kernel_rfl⟩⟩
def c_impl_payFor : ACode := .seq (.reg [⟨(some 3), .box 26 (.tmp 0), none⟩,
  ⟨(some 6), .mv (.const (.int .i64 0)), none⟩,
  ⟨(some 7), .mv (.const (.bool false)), none⟩])
 (.seq (.seq (.reg [⟨(some 9), .mv (.const (.int .i64 0)), none⟩])
 (.block 0 (.loop (.seq (.reg [⟨(some 10), .bin .lss (.tmp 9) (.const (.int .i64 100)), none⟩])
 (.seq (.cond (.tmp 10) (.skip) (.exit 0))
 (.seq (.block 1 (.seq (.reg [⟨(some 11), .mv (.tmp 9), none⟩,
  ⟨(some 8), .mv (.tmp 11), none⟩])
 (.seq (.reg [⟨(some 12), .ld (some 4) (.tmp 3), none⟩,
  ⟨(some 13), .mv (.tmp 8), none⟩,
  ⟨(some 14), .mv (.tmp 1), none⟩,
  ⟨(some 15), .mv (.tmp 2), none⟩,
  ⟨(some 16), .bld [(.int .i64 0), (.int .i64 0), (.int .i64 0)] [(0, 1, (.tmp 13)), (1, 1, (.tmp 14)), (2, 1, (.tmp 15))], none⟩,
  ⟨(some 17), .call (.func 70) [(.tmp 12), (.tmp 16)], none⟩])
 (.cond (.tmp 17) (.seq (.reg [⟨(some 18), .mv (.tmp 8), none⟩,
  ⟨(some 6), .mv (.tmp 18), none⟩,
  ⟨(some 7), .mv (.const (.bool true)), none⟩])
 (.ret)) (.skip)))))
 (.reg [⟨(some 19), .bin .add (.tmp 9) (.const (.int .i64 1)), none⟩,
  ⟨(some 9), .mv (.tmp 19), none⟩])))))))
 (.seq (.reg [⟨(some 6), .mv (.const (.int .i64 0)), none⟩,
  ⟨(some 7), .mv (.const (.bool false)), none⟩])
 (.ret)))
def r_impl_payFor : List ARes := [.tmp 6, .tmp 7]
theorem ok_impl_payFor : FnOk Try.prog 78 20 c_impl_payFor r_impl_payFor := ⟨⟨Try.f78, _, Try.func78, by kernel_rfl, rfl, rfl, by kernel_rfl, by kernel_rfl⟩⟩
def c_spec_l1In : ACode := .seq (.reg [⟨(some 6), .mv (.const (.bool false)), none⟩])
 (.seq (.reg [⟨(some 7), .mv (.tmp 0), none⟩,
  ⟨(some 8), .mv (.tmp 1), none⟩,
  ⟨(some 9), .bin .geq (.tmp 7) (.tmp 8), none⟩,
  ⟨(some 10), .mv (.tmp 9), none⟩,
  ⟨(some 11), .mv (.tmp 0), (some (10, true))⟩,
  ⟨(some 12), .mv (.tmp 2), (some (10, true))⟩,
  ⟨(some 13), .bin .leq (.tmp 11) (.tmp 12), (some (10, true))⟩,
  ⟨(some 14), .pick (.tmp 10) (.tmp 13) (.const (.bool false)), none⟩,
  ⟨(some 6), .mv (.tmp 14), none⟩])
 (.ret))
def r_spec_l1In : List ARes := [.tmp 6]
theorem ok_spec_l1In : FnOk Try.prog 79 15 c_spec_l1In r_spec_l1In := ⟨⟨Try.f79, _, Try.func79, by kernel_rfl, rfl, rfl, by kernel_rfl, by kernel_rfl⟩⟩
def c_spec_l1Least : ACode := .seq (.reg [⟨(some 4), .mv (.const (.int .i64 0)), none⟩])
 (.seq (.seq (.reg [⟨(some 5), .mv (.tmp 0), none⟩,
  ⟨(some 6), .mv (.tmp 1), none⟩,
  ⟨(some 7), .bin .lss (.tmp 5) (.tmp 6), none⟩])
 (.cond (.tmp 7) (.seq (.reg [⟨(some 8), .mv (.tmp 0), none⟩,
  ⟨(some 4), .mv (.tmp 8), none⟩])
 (.ret)) (.skip)))
 (.seq (.reg [⟨(some 9), .mv (.tmp 1), none⟩,
  ⟨(some 4), .mv (.tmp 9), none⟩])
 (.ret)))
def r_spec_l1Least : List ARes := [.tmp 4]
theorem ok_spec_l1Least : FnOk Try.prog 81 10 c_spec_l1Least r_spec_l1Least := ⟨⟨Try.f81, _, Try.func81, by kernel_rfl, rfl, rfl, by kernel_rfl, by kernel_rfl⟩⟩
def c_spec_l1Most : ACode := .seq (.reg [⟨(some 4), .mv (.const (.int .i64 0)), none⟩])
 (.seq (.seq (.reg [⟨(some 5), .mv (.tmp 0), none⟩,
  ⟨(some 6), .mv (.tmp 1), none⟩,
  ⟨(some 7), .bin .gtr (.tmp 5) (.tmp 6), none⟩])
 (.cond (.tmp 7) (.seq (.reg [⟨(some 8), .mv (.tmp 0), none⟩,
  ⟨(some 4), .mv (.tmp 8), none⟩])
 (.ret)) (.skip)))
 (.seq (.reg [⟨(some 9), .mv (.tmp 1), none⟩,
  ⟨(some 4), .mv (.tmp 9), none⟩])
 (.ret)))
def r_spec_l1Most : List ARes := [.tmp 4]
theorem ok_spec_l1Most : FnOk Try.prog 82 10 c_spec_l1Most r_spec_l1Most := ⟨⟨Try.f82, _, Try.func82, by kernel_rfl, rfl, rfl, by kernel_rfl, by kernel_rfl⟩⟩
def c_spec_l2Row : ACode := .seq (.reg [⟨(some 6), .mv (.const (.bool false)), none⟩])
 (.seq (.seq (.reg [⟨(some 7), .mv (.const (.int .i64 0)), none⟩])
 (.block 0 (.loop (.seq (.seq (.reg [⟨(some 8), .mv (.tmp 7), none⟩,
  ⟨(some 9), .mv (.tmp 0), none⟩,
  ⟨(some 10), .len (.tmp 9), none⟩,
  ⟨(some 11), .bin .lss (.tmp 8) (.tmp 10), none⟩])
 (.cond (.tmp 11) (.skip) (.exit 0)))
 (.seq (.block 1 (.seq (.reg [⟨(some 14), .mv (.tmp 0), none⟩,
  ⟨(some 15), .mv (.tmp 7), none⟩,
  ⟨(some 16), .iad 1 (.tmp 14) (.tmp 15), none⟩,
  ⟨(some 17), .ld none (.tmp 16), none⟩,
  ⟨(some 18), .mv (.tmp 2), none⟩,
  ⟨(some 19), .call (.func 79) [(.tmp 17), (.const (.int .i64 0)), (.tmp 18)], none⟩,
  ⟨(some 20), .un .not (.tmp 19), none⟩])
 (.cond (.tmp 20) (.seq (.reg [⟨(some 6), .mv (.const (.bool false)), none⟩])
 (.ret)) (.skip))))
 (.reg [⟨(some 12), .mv (.tmp 7), none⟩,
  ⟨(some 13), .bin .add (.tmp 12) (.const (.int .i64 1)), none⟩,
  ⟨(some 7), .mv (.tmp 13), none⟩]))))))
 (.seq (.reg [⟨(some 21), .mv (.tmp 0), none⟩,
  ⟨(some 22), .len (.tmp 21), none⟩,
  ⟨(some 23), .mv (.tmp 1), none⟩,
  ⟨(some 24), .bin .eql (.tmp 22) (.tmp 23), none⟩,
  ⟨(some 6), .mv (.tmp 24), none⟩])
 (.ret)))
def r_spec_l2Row : List ARes := [.tmp 6]
theorem ok_spec_l2Row : FnOk Try.prog 84 25 c_spec_l2Row r_spec_l2Row := ⟨⟨Try.f84, _, Try.func84, by kernel_rfl, rfl, rfl, by kernel_rfl, by kernel_rfl⟩⟩
def c_impl_piecesFor : ACode := .seq (.reg [⟨(some 2), .mv (.const (.pointer none)), none⟩])
 (.seq (.reg [⟨(some 4), .mv (.tmp 0), none⟩,
  ⟨(some 5), .slc 1 (.tmp 4) (some (.const (.int .i64 1))) none, none⟩,
  ⟨(some 3), .mv (.tmp 5), none⟩])
 (.seq (.seq (.reg [⟨(some 6), .mv (.tmp 3), none⟩,
  ⟨(some 7), .len (.tmp 6), none⟩,
  ⟨(some 8), .bin .eql (.tmp 7) (.const (.int .i64 0)), none⟩])
 (.cond (.tmp 8) (.seq (.reg [⟨(some 2), .mv (.const (.pointer none)), none⟩])
 (.ret)) (.skip)))
 (.seq (.reg [⟨(some 9), .mv (.tmp 3), none⟩,
  ⟨(some 10), .call (.func 87) [(.tmp 9)], none⟩,
  ⟨(some 11), .mv (.tmp 3), none⟩,
  ⟨(some 12), .call (.func 85) [(.tmp 11)], none⟩,
  ⟨(some 13), .bld [(.int .i64 0), (.pointer none)] [(0, 1, (.tmp 10)), (1, 1, (.tmp 12))], none⟩,
  ⟨(some 14), .box 89 (.tmp 13), none⟩,
  ⟨(some 2), .mv (.tmp 14), none⟩])
 (.ret))))
def r_impl_piecesFor : List ARes := [.tmp 2]
theorem ok_impl_piecesFor : FnOk Try.prog 85 15 c_impl_piecesFor r_impl_piecesFor := ⟨⟨Try.f85, _, Try.func85, by kernel_rfl, rfl, rfl, by kernel_rfl, by kernel_rfl⟩⟩
def c_impl_piece__sold : ACode := .seq (.reg [⟨(some 4), .mv (.const (.int .i64 0)), none⟩])
 (.seq (.seq (.reg [⟨(some 5), .mv (.tmp 0), none⟩,
  ⟨(some 6), .ptn false (.tmp 5), none⟩,
  ⟨(some 7), .mv (.tmp 6), none⟩,
  ⟨(some 8), .mv (.tmp 1), (some (7, false))⟩,
  ⟨(some 9), .bin .eql (.tmp 8) (.const (.int .i64 0)), (some (7, false))⟩,
  ⟨(some 10), .pick (.tmp 7) (.const (.bool true)) (.tmp 9), none⟩])
 (.cond (.tmp 10) (.seq (.reg [⟨(some 4), .mv (.const (.int .i64 0)), none⟩])
 (.ret)) (.skip)))
 (.seq (.reg [⟨(some 11), .mv (.tmp 0), none⟩,
  ⟨(some 12), .nilc (.tmp 11), none⟩,
  ⟨(some 13), .fad 0 (.tmp 12), none⟩,
  ⟨(some 14), .ld none (.tmp 13), none⟩,
  ⟨(some 15), .mv (.tmp 0), none⟩,
  ⟨(some 16), .nilc (.tmp 15), none⟩,
  ⟨(some 17), .fad 1 (.tmp 16), none⟩,
  ⟨(some 18), .ld none (.tmp 17), none⟩,
  ⟨(some 19), .mv (.tmp 1), none⟩,
  ⟨(some 20), .bin .sub (.tmp 19) (.const (.int .i64 1)), none⟩,
  ⟨(some 21), .rcall (.func 86) [(.tmp 18), (.tmp 20)], none⟩,
  ⟨(some 22), .bin .add (.tmp 14) (.tmp 21), none⟩,
  ⟨(some 4), .mv (.tmp 22), none⟩])
 (.ret)))
def r_impl_piece__sold : List ARes := [.tmp 4]
theorem ok_impl_piece__sold : FnOk Try.prog 86 23 c_impl_piece__sold r_impl_piece__sold := ⟨⟨Try.f86, _, Try.func86, by kernel_rfl, rfl, rfl, by kernel_rfl, by kernel_rfl⟩⟩
def c_impl_sumOf : ACode := .seq (.reg [⟨(some 2), .mv (.const (.int .i64 0)), none⟩])
 (.seq (.reg [⟨(some 3), .mv (.const (.int .i64 0)), none⟩])
 (.seq (.seq (.reg [⟨(some 6), .mv (.tmp 0), none⟩,
  ⟨(some 7), .len (.tmp 6), none⟩,
  ⟨(some 8), .mv (.const (.int .i64 0)), none⟩])
 (.block 0 (.loop (.seq (.reg [⟨(some 9), .bin .lss (.tmp 8) (.tmp 7), none⟩])
 (.seq (.cond (.tmp 9) (.skip) (.exit 0))
 (.seq (.block 1 (.seq (.reg [⟨(some 10), .iad 1 (.tmp 6) (.tmp 8), none⟩,
  ⟨(some 11), .ld none (.tmp 10), none⟩,
  ⟨(some 5), .mv (.tmp 11), none⟩])
 (.reg [⟨(some 12), .mv (.tmp 3), none⟩,
  ⟨(some 13), .mv (.tmp 5), none⟩,
  ⟨(some 14), .bin .add (.tmp 12) (.tmp 13), none⟩,
  ⟨(some 3), .mv (.tmp 14), none⟩])))
 (.reg [⟨(some 15), .bin .add (.tmp 8) (.const (.int .i64 1)), none⟩,
  ⟨(some 8), .mv (.tmp 15), none⟩])))))))
 (.seq (.reg [⟨(some 16), .mv (.tmp 3), none⟩,
  ⟨(some 2), .mv (.tmp 16), none⟩])
 (.ret))))
def r_impl_sumOf : List ARes := [.tmp 2]
theorem ok_impl_sumOf : FnOk Try.prog 87 17 c_impl_sumOf r_impl_sumOf := ⟨⟨Try.f87, _, Try.func87, by kernel_rfl, rfl, rfl, by kernel_rfl, by kernel_rfl⟩⟩
def c_impl_isRow : ACode := .seq (.reg [⟨(some 5), .box 3 (.tmp 2), none⟩,
  ⟨(some 6), .mv (.const (.bool false)), none⟩])
 (.seq (.reg [⟨(some 8), .mkf 94 [] [(.tmp 5)], none⟩,
  ⟨(some 7), .mv (.tmp 8), none⟩])
 (.seq (.reg [⟨(some 9), .mv (.tmp 0), none⟩,
  ⟨(some 10), .len (.tmp 9), none⟩,
  ⟨(some 11), .mv (.tmp 1), none⟩,
  ⟨(some 12), .bin .eql (.tmp 10) (.tmp 11), none⟩,
  ⟨(some 13), .mv (.tmp 12), none⟩,
  ⟨(some 14), .mv (.tmp 0), (some (13, true))⟩,
  ⟨(some 15), .mv (.tmp 7), (some (13, true))⟩,
  ⟨(some 16), .call (.func 95) [(.tmp 14), (.tmp 15)], (some (13, true))⟩,
  ⟨(some 17), .un .not (.tmp 16), (some (13, true))⟩,
  ⟨(some 18), .pick (.tmp 13) (.tmp 17) (.const (.bool false)), none⟩,
  ⟨(some 6), .mv (.tmp 18), none⟩])
 (.ret)))
def r_impl_isRow : List ARes := [.tmp 6]
theorem ok_impl_isRow : FnOk Try.prog 88 19 c_impl_isRow r_impl_isRow := ⟨⟨Try.f88, _, Try.func88, by kernel_rfl, rfl, rfl, by kernel_rfl, by kernel_rfl⟩⟩
def c_slices_Max : ACode := .seq (.reg [⟨(some 2), .mv (.const (.int .i64 0)), none⟩])
 (.seq (.seq (.reg [⟨(some 5), .mv (.tmp 0), none⟩,
  ⟨(some 6), .len (.tmp 5), none⟩,
  ⟨(some 7), .bin .lss (.tmp 6) (.const (.int .i64 1)), none⟩])
 (.cond (.tmp 7) (.reg [⟨(some 8), .mif 9 (.const (.string ⟨#[115, 108, 105, 99, 101, 115, 46, 77, 97, 120, 58, 32, 101, 109, 112, 116, 121, 32, 108, 105, 115, 116]⟩)), none⟩,
  ⟨none, .never, none⟩]) (.skip)))
 (.seq (.reg [⟨(some 9), .mv (.tmp 0), none⟩,
  ⟨(some 10), .iad 1 (.tmp 9) (.const (.int .i64 0)), none⟩,
  ⟨(some 11), .ld none (.tmp 10), none⟩,
  ⟨(some 3), .mv (.tmp 11), none⟩])
 (.seq (.seq (.reg [⟨(some 4), .mv (.const (.int .i64 1)), none⟩])
 (.block 0 (.loop (.seq (.seq (.reg [⟨(some 12), .mv (.tmp 4), none⟩,
  ⟨(some 13), .mv (.tmp 0), none⟩,
  ⟨(some 14), .len (.tmp 13), none⟩,
  ⟨(some 15), .bin .lss (.tmp 12) (.tmp 14), none⟩])
 (.cond (.tmp 15) (.skip) (.exit 0)))
 (.seq (.block 1 (.reg [⟨(some 18), .mv (.tmp 3), none⟩,
  ⟨(some 19), .mv (.tmp 0), none⟩,
  ⟨(some 20), .mv (.tmp 4), none⟩,
  ⟨(some 21), .iad 1 (.tmp 19) (.tmp 20), none⟩,
  ⟨(some 22), .ld none (.tmp 21), none⟩,
  ⟨(some 23), .mmx true (.tmp 18) (.tmp 22), none⟩,
  ⟨(some 3), .mv (.tmp 23), none⟩]))
 (.reg [⟨(some 16), .mv (.tmp 4), none⟩,
  ⟨(some 17), .bin .add (.tmp 16) (.const (.int .i64 1)), none⟩,
  ⟨(some 4), .mv (.tmp 17), none⟩]))))))
 (.seq (.reg [⟨(some 24), .mv (.tmp 3), none⟩,
  ⟨(some 2), .mv (.tmp 24), none⟩])
 (.ret)))))
def r_slices_Max : List ARes := [.tmp 2]
theorem ok_slices_Max : FnOk Try.prog 89 25 c_slices_Max r_slices_Max := ⟨⟨Try.f89, _, Try.func89, by kernel_rfl, rfl, rfl, by kernel_rfl, by kernel_rfl⟩⟩
def c_slices_Index : ACode := .seq (.reg [⟨(some 4), .mv (.const (.int .i64 0)), none⟩])
 (.seq (.seq (.reg [⟨(some 6), .mv (.tmp 0), none⟩,
  ⟨(some 7), .len (.tmp 6), none⟩,
  ⟨(some 8), .mv (.const (.int .i64 0)), none⟩])
 (.block 0 (.loop (.seq (.reg [⟨(some 9), .bin .lss (.tmp 8) (.tmp 7), none⟩])
 (.seq (.cond (.tmp 9) (.skip) (.exit 0))
 (.seq (.block 1 (.seq (.reg [⟨(some 10), .mv (.tmp 8), none⟩,
  ⟨(some 5), .mv (.tmp 10), none⟩])
 (.seq (.reg [⟨(some 11), .mv (.tmp 1), none⟩,
  ⟨(some 12), .mv (.tmp 0), none⟩,
  ⟨(some 13), .mv (.tmp 5), none⟩,
  ⟨(some 14), .iad 1 (.tmp 12) (.tmp 13), none⟩,
  ⟨(some 15), .ld none (.tmp 14), none⟩,
  ⟨(some 16), .bin .eql (.tmp 11) (.tmp 15), none⟩])
 (.cond (.tmp 16) (.seq (.reg [⟨(some 17), .mv (.tmp 5), none⟩,
  ⟨(some 4), .mv (.tmp 17), none⟩])
 (.ret)) (.skip)))))
 (.reg [⟨(some 18), .bin .add (.tmp 8) (.const (.int .i64 1)), none⟩,
  ⟨(some 8), .mv (.tmp 18), none⟩])))))))
 (.seq (.reg [⟨(some 4), .mv (.const (.int .i64 (-1))), none⟩])
 (.ret)))
def r_slices_Index : List ARes := [.tmp 4]
theorem ok_slices_Index : FnOk Try.prog 90 19 c_slices_Index r_slices_Index := ⟨⟨Try.f90, _, Try.func90, by kernel_rfl, rfl, rfl, by kernel_rfl, by kernel_rfl⟩⟩
def c_impl_isRow_1 : ACode := .seq (.reg [⟨(some 3), .mv (.const (.bool false)), none⟩])
 (.seq (.reg [⟨(some 4), .mv (.tmp 0), none⟩,
  ⟨(some 5), .ld none (.tmp 1), none⟩,
  ⟨(some 6), .call (.func 62) [(.tmp 4), (.tmp 5)], none⟩,
  ⟨(some 7), .un .not (.tmp 6), none⟩,
  ⟨(some 3), .mv (.tmp 7), none⟩])
 (.ret))
def r_impl_isRow_1 : List ARes := [.tmp 3]
theorem ok_impl_isRow_1 : FnOk Try.prog 94 8 c_impl_isRow_1 r_impl_isRow_1 := ⟨⟨Try.f94, _, Try.func94, by kernel_rfl, rfl, rfl, by kernel_rfl, by kernel_rfl⟩⟩
def c_slices_ContainsFunc : ACode := .seq (.reg [⟨(some 4), .mv (.const (.bool false)), none⟩])
 (.seq (.reg [⟨(some 5), .mv (.tmp 0), none⟩,
  ⟨(some 6), .mv (.tmp 1), none⟩,
  ⟨(some 7), .call (.func 96) [(.tmp 5), (.tmp 6)], none⟩,
  ⟨(some 8), .bin .geq (.tmp 7) (.const (.int .i64 0)), none⟩,
  ⟨(some 4), .mv (.tmp 8), none⟩])
 (.ret))
def r_slices_ContainsFunc : List ARes := [.tmp 4]
theorem ok_slices_ContainsFunc : FnOk Try.prog 95 9 c_slices_ContainsFunc r_slices_ContainsFunc := ⟨⟨Try.f95, _, Try.func95, by kernel_rfl, rfl, rfl, by kernel_rfl, by kernel_rfl⟩⟩
def c_slices_IndexFunc : ACode := .seq (.reg [⟨(some 4), .mv (.const (.int .i64 0)), none⟩])
 (.seq (.seq (.reg [⟨(some 6), .mv (.tmp 0), none⟩,
  ⟨(some 7), .len (.tmp 6), none⟩,
  ⟨(some 8), .mv (.const (.int .i64 0)), none⟩])
 (.block 0 (.loop (.seq (.reg [⟨(some 9), .bin .lss (.tmp 8) (.tmp 7), none⟩])
 (.seq (.cond (.tmp 9) (.skip) (.exit 0))
 (.seq (.block 1 (.seq (.reg [⟨(some 10), .mv (.tmp 8), none⟩,
  ⟨(some 5), .mv (.tmp 10), none⟩])
 (.seq (.reg [⟨(some 11), .mv (.tmp 1), none⟩,
  ⟨(some 12), .mv (.tmp 0), none⟩,
  ⟨(some 13), .mv (.tmp 5), none⟩,
  ⟨(some 14), .iad 1 (.tmp 12) (.tmp 13), none⟩,
  ⟨(some 15), .ld none (.tmp 14), none⟩,
  ⟨(some 16), .call (.tmp 11) [(.tmp 15)], none⟩])
 (.cond (.tmp 16) (.seq (.reg [⟨(some 17), .mv (.tmp 5), none⟩,
  ⟨(some 4), .mv (.tmp 17), none⟩])
 (.ret)) (.skip)))))
 (.reg [⟨(some 18), .bin .add (.tmp 8) (.const (.int .i64 1)), none⟩,
  ⟨(some 8), .mv (.tmp 18), none⟩])))))))
 (.seq (.reg [⟨(some 4), .mv (.const (.int .i64 (-1))), none⟩])
 (.ret)))
def r_slices_IndexFunc : List ARes := [.tmp 4]
theorem ok_slices_IndexFunc : FnOk Try.prog 96 19 c_slices_IndexFunc r_slices_IndexFunc := ⟨⟨Try.f96, _, Try.func96, by kernel_rfl, rfl, rfl, by kernel_rfl, by kernel_rfl⟩⟩
end Go.Proofs.Ytpedjcagaeedjaa.Ab
end
section
namespace Go.Proofs.Ytpedjcagaeedjaa.Ab
open Go Go.RowKit
set_option linter.unusedVariables false
set_option linter.unusedSimpArgs false
def inB (most x : Int) : Bool := decide (0 ≤ x) && decide (x ≤ most)
theorem rowB_all (l : List Int) (n : Nat) (most : Int) : Go.Proofs.Ytpedjcagaeedjaa.rowB l n most = (decide (l.length = n) && l.all (inB most)) := by
  rw [Bool.and_comm]; rfl
def allTo (f : Int → Bool) (l : List Int) (k : Nat) : Prop := ∀ j, j < k → f (l.getD j 0) = true
theorem allTo_all {f : Int → Bool} {l : List Int} (h : allTo f l l.length) : l.all f = true := by
  rw [List.all_eq_true]
  intro x hx
  obtain ⟨k, hk, rfl⟩ := List.getElem_of_mem hx
  have := h k hk
  rwa [List.getD_eq_getElem?_getD, List.getElem?_eq_getElem hk] at this
theorem allTo_no {f : Int → Bool} {l : List Int} {k : Nat} (hk : k < l.length) (h : f (l.getD k 0) = false) : l.all f = false := by
  rw [List.getD_eq_getElem?_getD, List.getElem?_eq_getElem hk] at h
  cases hr : l.all f with
  | false => rfl
  | true => rw [Option.getD_some, List.all_eq_true.1 hr _ (List.getElem_mem hk)] at h; cases h
theorem allTo_s {f : Int → Bool} {l : List Int} {k : Nat} (h : allTo f l k) (h2 : f (l.getD k 0) = true) : allTo f l (k + 1) := fun j hj => by
  by_cases e : j = k
  · rw [e]; exact h2
  · exact h j (by omega)

theorem l1In_rc (m : Mem) (x lo hi : Int) : RC Try.prog 79 [.int .i64 x, .int .i64 lo, .int .i64 hi] m fun r new => r = .bool (decide (lo ≤ x) && decide (x ≤ hi)) ∧ new = [] := by
  refine rc_of_run mixed ok_spec_l1In (by simp) (go_start _ _ _ ?_)
  by_cases h1 : lo ≤ x <;> by_cases h2 : x ≤ hi
  all_goals
    simp (config := {implicitDefEqProofs := false, maxDischargeDepth := 20}) (disch := first | omega | (simp only [lenE]; done) | (simp only [lenE]; omega) | rfl | (simp only [lenE, markR_len]; done) | (simp only [lenE, markR_len]; omega)) only [runE, mapE, listE, initT_5, initT_6, initT_7, initT_8, resV, oneV, binA, unA, reduceCtorEq, Nat.reduceEqDiff, Nat.reduceAdd, Nat.reduceLT, Nat.reduceLeDiff, Nat.reduceMul, Nat.reduceSub, ↓reduceIte, decide_true, decide_false, Bool.true_eq_false, Bool.false_eq_true, Bool.not_true, Bool.not_false, if_true, if_false, and_true, true_and, memE, celE, w64, Nat.zero_add, Nat.add_zero, Nat.mul_one, putL, and_self, ldn, c_spec_l1In, r_spec_l1In, h1, h2, ge_iff_le]
    exact newQ_nil ⟨by simp, rfl⟩

theorem l2Row_rc (m : Mem) (v : Value) (l : List Int) (n : Nat) (most : Int) (h : IntsA m v l) :
    RC Try.prog 84 [v, .int .i64 n, .int .i64 most] m fun r new => r = .bool (Go.Proofs.Ytpedjcagaeedjaa.rowB l n most) ∧ new = [] := by
  refine rc_of_run mixed ok_spec_l2Row (by simp) (go_start _ _ _ ?_)
  obtain ⟨e1, e2, e3, e4, -⟩ := h.ro
  rw [rowB_all]
  simp (config := {implicitDefEqProofs := false, maxDischargeDepth := 20}) (disch := first | omega | (simp only [lenE]; done) | (simp only [lenE]; omega) | rfl | (simp only [lenE, markR_len]; done) | (simp only [lenE, markR_len]; omega)) only [runE, mapE, listE, initT_5, initT_6, initT_7, initT_8, resV, oneV, binA, unA, reduceCtorEq, Nat.reduceEqDiff, Nat.reduceAdd, Nat.reduceLT, Nat.reduceLeDiff, Nat.reduceMul, Nat.reduceSub, ↓reduceIte, decide_true, decide_false, Bool.true_eq_false, Bool.false_eq_true, Bool.not_true, Bool.not_false, if_true, if_false, and_true, true_and, memE, celE, w64, Nat.zero_add, Nat.add_zero, Nat.mul_one, putL, and_self, ldn, c_spec_l2Row, r_spec_l2Row]
  refine loop_inv mixed (fun s => ∃ k : Nat, k ≤ l.length ∧ s.t 0 = v ∧ s.t 1 = .int .i64 n ∧ s.t 2 = .int .i64 most ∧ s.t 7 = .int .i64 k ∧ s.m = roM m ∧ allTo (inB most) l k) (fun s => l.length - (intOf (s.t 7)).toNat) ⟨0, by omega, rfl, rfl, rfl, rfl, rfl, fun j hj => absurd hj (by omega)⟩ ?_
  rintro s ⟨k, hk, t0, t1, t2, t7, tm, hall⟩
  by_cases hlt : k < l.length
  · have hlt' : (k : Int) < l.length := by omega
    simp (config := {implicitDefEqProofs := false, maxDischargeDepth := 20}) (disch := first | omega | (simp only [lenE]; done) | (simp only [lenE]; omega) | rfl | (simp only [lenE, markR_len]; done) | (simp only [lenE, markR_len]; omega)) only [runE, mapE, listE, initT_5, initT_6, initT_7, initT_8, resV, oneV, binA, unA, reduceCtorEq, Nat.reduceEqDiff, Nat.reduceAdd, Nat.reduceLT, Nat.reduceLeDiff, Nat.reduceMul, Nat.reduceSub, ↓reduceIte, decide_true, decide_false, Bool.true_eq_false, Bool.false_eq_true, Bool.not_true, Bool.not_false, if_true, if_false, and_true, true_and, memE, celE, w64, Nat.zero_add, Nat.add_zero, Nat.mul_one, putL, and_self, ldn, t0, t1, t2, t7, tm, e1, e3 k hlt, e4 k hlt, hlt']
    refine callH_rc (l1In_rc _ _ _ _) ?_
    rintro r new ⟨rfl, rfl⟩
    have hin : (decide (0 ≤ l.getD k 0) && decide (l.getD k 0 ≤ most)) = inB most (l.getD k 0) := rfl
    rw [hin]
    cases hb : inB most (l.getD k 0) with
    | true =>
      simp (config := {implicitDefEqProofs := false, maxDischargeDepth := 20}) (disch := first | omega | (simp only [lenE]; done) | (simp only [lenE]; omega) | rfl | (simp only [lenE, markR_len]; done) | (simp only [lenE, markR_len]; omega)) only [runE, mapE, listE, initT_5, initT_6, initT_7, initT_8, resV, oneV, binA, unA, reduceCtorEq, Nat.reduceEqDiff, Nat.reduceAdd, Nat.reduceLT, Nat.reduceLeDiff, Nat.reduceMul, Nat.reduceSub, ↓reduceIte, decide_true, decide_false, Bool.true_eq_false, Bool.false_eq_true, Bool.not_true, Bool.not_false, if_true, if_false, and_true, true_and, memE, celE, w64, Nat.zero_add, Nat.add_zero, Nat.mul_one, putL, and_self, ldn, t0, t1, t2, t7, tm]
      refine ⟨⟨k + 1, by omega, by simp, allTo_s hall hb⟩, ?_⟩
      simp [intOf]; omega
    | false =>
      simp (config := {implicitDefEqProofs := false, maxDischargeDepth := 20}) (disch := first | omega | (simp only [lenE]; done) | (simp only [lenE]; omega) | rfl | (simp only [lenE, markR_len]; done) | (simp only [lenE, markR_len]; omega)) only [runE, mapE, listE, initT_5, initT_6, initT_7, initT_8, resV, oneV, binA, unA, reduceCtorEq, Nat.reduceEqDiff, Nat.reduceAdd, Nat.reduceLT, Nat.reduceLeDiff, Nat.reduceMul, Nat.reduceSub, ↓reduceIte, decide_true, decide_false, Bool.true_eq_false, Bool.false_eq_true, Bool.not_true, Bool.not_false, if_true, if_false, and_true, true_and, memE, celE, w64, Nat.zero_add, Nat.add_zero, Nat.mul_one, putL, and_self, ldn, t0, t1, t2, t7, tm]
      exact newQ_nil ⟨by rw [allTo_no hlt hb]; simp, rfl⟩
  · have hlt' : ¬ ((k : Int) < l.length) := by omega
    have e : k = l.length := by omega
    simp (config := {implicitDefEqProofs := false, maxDischargeDepth := 20}) (disch := first | omega | (simp only [lenE]; done) | (simp only [lenE]; omega) | rfl | (simp only [lenE, markR_len]; done) | (simp only [lenE, markR_len]; omega)) only [runE, mapE, listE, initT_5, initT_6, initT_7, initT_8, resV, oneV, binA, unA, reduceCtorEq, Nat.reduceEqDiff, Nat.reduceAdd, Nat.reduceLT, Nat.reduceLeDiff, Nat.reduceMul, Nat.reduceSub, ↓reduceIte, decide_true, decide_false, Bool.true_eq_false, Bool.false_eq_true, Bool.not_true, Bool.not_false, if_true, if_false, and_true, true_and, memE, celE, w64, Nat.zero_add, Nat.add_zero, Nat.mul_one, putL, and_self, ldn, t0, t1, t2, t7, tm, e1, hlt']
    rw [e] at hall
    refine newQ_nil ⟨?_, rfl⟩
    rw [allTo_all hall]
    by_cases hq : l.length = n <;> simp [hq] <;> omega

def TestA (m : Mem) (fv : Value) (f : Int → Bool) : Prop :=
  ∃ g cap, fv = .func (.func g) #[] cap ∧ ∀ x m', (∀ id k v, rdc m id k = some v → rdc m' id k = some v) → RC Try.prog g (.int .i64 x :: cap.toList) m' fun r new => r = .bool (f x) ∧ new = []

theorem isWithin_rc (m : Mem) (x most : Int) : RC Try.prog 62 [.int .i64 x, .int .i64 most] m fun r new => r = .bool (inB most x) ∧ new = [] := by
  refine rc_of_run mixed ok_impl_isWithin (by simp) (go_start _ _ _ ?_)
  by_cases h1 : 0 ≤ x <;> by_cases h2 : x ≤ most
  all_goals
    simp (config := {implicitDefEqProofs := false, maxDischargeDepth := 20}) (disch := first | omega | (simp only [lenE]; done) | (simp only [lenE]; omega) | rfl | (simp only [lenE, markR_len]; done) | (simp only [lenE, markR_len]; omega)) only [runE, mapE, listE, initT_5, initT_6, initT_7, initT_8, resV, oneV, binA, unA, reduceCtorEq, Nat.reduceEqDiff, Nat.reduceAdd, Nat.reduceLT, Nat.reduceLeDiff, Nat.reduceMul, Nat.reduceSub, ↓reduceIte, decide_true, decide_false, Bool.true_eq_false, Bool.false_eq_true, Bool.not_true, Bool.not_false, if_true, if_false, and_true, true_and, memE, celE, w64, Nat.zero_add, Nat.add_zero, Nat.mul_one, putL, and_self, ldn, c_impl_isWithin, r_impl_isWithin, h1, h2, ge_iff_le]
    exact newQ_nil ⟨by simp [inB, h1, h2], rfl⟩

theorem isRow1_test (m : Mem) (id : Nat) (most : Int) (h : rdc m id 0 = some (.int .i64 most)) :
    TestA m (.func (.func 94) #[] #[.pointer (some ⟨id, 0, none⟩)]) (fun x => !inB most x) := by
  refine ⟨_, _, rfl, fun x m' hm => ?_⟩
  refine rc_of_run mixed ok_impl_isRow_1 (by simp) (go_start _ _ _ ?_)
  have h' : rdc (roM m') id 0 = some (.int .i64 most) := by rw [rdc_roM]; exact hm _ _ _ h
  simp (config := {implicitDefEqProofs := false, maxDischargeDepth := 20}) (disch := first | omega | (simp only [lenE]; done) | (simp only [lenE]; omega) | rfl | (simp only [lenE, markR_len]; done) | (simp only [lenE, markR_len]; omega)) only [runE, mapE, listE, initT_5, initT_6, initT_7, initT_8, resV, oneV, binA, unA, reduceCtorEq, Nat.reduceEqDiff, Nat.reduceAdd, Nat.reduceLT, Nat.reduceLeDiff, Nat.reduceMul, Nat.reduceSub, ↓reduceIte, decide_true, decide_false, Bool.true_eq_false, Bool.false_eq_true, Bool.not_true, Bool.not_false, if_true, if_false, and_true, true_and, memE, celE, w64, Nat.zero_add, Nat.add_zero, Nat.mul_one, putL, and_self, ldn, c_impl_isRow_1, r_impl_isRow_1, h']
  refine callH_rc (isWithin_rc _ x most) ?_
  rintro r new ⟨rfl, rfl⟩
  simp (config := {implicitDefEqProofs := false, maxDischargeDepth := 20}) (disch := first | omega | (simp only [lenE]; done) | (simp only [lenE]; omega) | rfl | (simp only [lenE, markR_len]; done) | (simp only [lenE, markR_len]; omega)) only [runE, mapE, listE, initT_5, initT_6, initT_7, initT_8, resV, oneV, binA, unA, reduceCtorEq, Nat.reduceEqDiff, Nat.reduceAdd, Nat.reduceLT, Nat.reduceLeDiff, Nat.reduceMul, Nat.reduceSub, ↓reduceIte, decide_true, decide_false, Bool.true_eq_false, Bool.false_eq_true, Bool.not_true, Bool.not_false, if_true, if_false, and_true, true_and, memE, celE, w64, Nat.zero_add, Nat.add_zero, Nat.mul_one, putL, and_self, ldn]
  exact newQ_nil ⟨rfl, rfl⟩

def firstAt (f : Int → Bool) : List Int → Nat → Int
  | [], _ => -1
  | x :: l, k => if f x then k else firstAt f l (k + 1)
theorem firstAt_step {f : Int → Bool} {l : List Int} {k : Nat} (h : k < l.length) : firstAt f (l.drop k) k = if f (l.getD k 0) then (k : Int) else firstAt f (l.drop (k + 1)) (k + 1) := by
  rw [List.drop_eq_getElem_cons h, firstAt, List.getD_eq_getElem?_getD, List.getElem?_eq_getElem h]; rfl
theorem firstAt_any (f : Int → Bool) (l : List Int) : ∀ k : Nat, decide (0 ≤ firstAt f l k) = l.any f ∧ -1 ≤ firstAt f l k ∧ firstAt f l k ≤ k + l.length := by
  induction l with
  | nil => intro k; simp [firstAt]
  | cons x l ih =>
    intro k
    obtain ⟨h1, h2, h3⟩ := ih (k + 1)
    rw [firstAt]
    cases hx : f x
    · simp [hx, h1]; omega
    · simp [hx]; omega

theorem indexFunc_rc (m : Mem) (v fv : Value) (l : List Int) (f : Int → Bool) (h : IntsA m v l) (hf : TestA m fv f) :
    RC Try.prog 96 [v, fv] m fun r new => r = .int .i64 (firstAt f l 0) ∧ new = [] := by
  refine rc_of_run mixed ok_slices_IndexFunc (by simp) (go_start _ _ _ ?_)
  obtain ⟨e1, e2, e3, e4, -⟩ := h.ro
  obtain ⟨g, cap, rfl, hg⟩ := hf
  simp (config := {implicitDefEqProofs := false, maxDischargeDepth := 20}) (disch := first | omega | (simp only [lenE]; done) | (simp only [lenE]; omega) | rfl | (simp only [lenE, markR_len]; done) | (simp only [lenE, markR_len]; omega)) only [runE, mapE, listE, initT_5, initT_6, initT_7, initT_8, resV, oneV, binA, unA, reduceCtorEq, Nat.reduceEqDiff, Nat.reduceAdd, Nat.reduceLT, Nat.reduceLeDiff, Nat.reduceMul, Nat.reduceSub, ↓reduceIte, decide_true, decide_false, Bool.true_eq_false, Bool.false_eq_true, Bool.not_true, Bool.not_false, if_true, if_false, and_true, true_and, memE, celE, w64, Nat.zero_add, Nat.add_zero, Nat.mul_one, putL, and_self, ldn, c_slices_IndexFunc, r_slices_IndexFunc, e1]
  refine loop_inv mixed (fun s => ∃ k : Nat, k ≤ l.length ∧ s.t 0 = v ∧ s.t 1 = .func (.func g) #[] cap ∧ s.t 7 = .int .i64 l.length ∧ s.t 8 = .int .i64 k ∧ s.m = roM m ∧ firstAt f l 0 = firstAt f (l.drop k) k) (fun s => l.length - (intOf (s.t 8)).toNat) ⟨0, by omega, rfl, rfl, rfl, rfl, rfl, rfl⟩ ?_
  rintro s ⟨k, hk, t0, t1, t7, t8, tm, hall⟩
  by_cases hlt : k < l.length
  · have hlt' : (k : Int) < l.length := by omega
    simp (config := {implicitDefEqProofs := false, maxDischargeDepth := 20}) (disch := first | omega | (simp only [lenE]; done) | (simp only [lenE]; omega) | rfl | (simp only [lenE, markR_len]; done) | (simp only [lenE, markR_len]; omega)) only [runE, mapE, listE, initT_5, initT_6, initT_7, initT_8, resV, oneV, binA, unA, reduceCtorEq, Nat.reduceEqDiff, Nat.reduceAdd, Nat.reduceLT, Nat.reduceLeDiff, Nat.reduceMul, Nat.reduceSub, ↓reduceIte, decide_true, decide_false, Bool.true_eq_false, Bool.false_eq_true, Bool.not_true, Bool.not_false, if_true, if_false, and_true, true_and, memE, celE, w64, Nat.zero_add, Nat.add_zero, Nat.mul_one, putL, and_self, ldn, t0, t1, t7, t8, tm, e1, e3 k hlt, e4 k hlt, hlt']
    refine callH_rc (hg _ _ fun id k v hv => by rw [rdc_roM]; exact hv) ?_
    rintro r new ⟨rfl, rfl⟩
    rw [firstAt_step hlt] at hall
    cases hb : f (l.getD k 0) with
    | true =>
      simp (config := {implicitDefEqProofs := false, maxDischargeDepth := 20}) (disch := first | omega | (simp only [lenE]; done) | (simp only [lenE]; omega) | rfl | (simp only [lenE, markR_len]; done) | (simp only [lenE, markR_len]; omega)) only [runE, mapE, listE, initT_5, initT_6, initT_7, initT_8, resV, oneV, binA, unA, reduceCtorEq, Nat.reduceEqDiff, Nat.reduceAdd, Nat.reduceLT, Nat.reduceLeDiff, Nat.reduceMul, Nat.reduceSub, ↓reduceIte, decide_true, decide_false, Bool.true_eq_false, Bool.false_eq_true, Bool.not_true, Bool.not_false, if_true, if_false, and_true, true_and, memE, celE, w64, Nat.zero_add, Nat.add_zero, Nat.mul_one, putL, and_self, ldn, t0, t1, t7, t8, tm]
      exact newQ_nil ⟨by rw [hall, hb]; rfl, rfl⟩
    | false =>
      simp (config := {implicitDefEqProofs := false, maxDischargeDepth := 20}) (disch := first | omega | (simp only [lenE]; done) | (simp only [lenE]; omega) | rfl | (simp only [lenE, markR_len]; done) | (simp only [lenE, markR_len]; omega)) only [runE, mapE, listE, initT_5, initT_6, initT_7, initT_8, resV, oneV, binA, unA, reduceCtorEq, Nat.reduceEqDiff, Nat.reduceAdd, Nat.reduceLT, Nat.reduceLeDiff, Nat.reduceMul, Nat.reduceSub, ↓reduceIte, decide_true, decide_false, Bool.true_eq_false, Bool.false_eq_true, Bool.not_true, Bool.not_false, if_true, if_false, and_true, true_and, memE, celE, w64, Nat.zero_add, Nat.add_zero, Nat.mul_one, putL, and_self, ldn, t0, t1, t7, t8, tm]
      rw [hb] at hall
      refine ⟨⟨k + 1, by omega, by simp, hall⟩, ?_⟩
      simp [intOf]; omega
  · have hlt' : ¬ ((k : Int) < l.length) := by omega
    simp (config := {implicitDefEqProofs := false, maxDischargeDepth := 20}) (disch := first | omega | (simp only [lenE]; done) | (simp only [lenE]; omega) | rfl | (simp only [lenE, markR_len]; done) | (simp only [lenE, markR_len]; omega)) only [runE, mapE, listE, initT_5, initT_6, initT_7, initT_8, resV, oneV, binA, unA, reduceCtorEq, Nat.reduceEqDiff, Nat.reduceAdd, Nat.reduceLT, Nat.reduceLeDiff, Nat.reduceMul, Nat.reduceSub, ↓reduceIte, decide_true, decide_false, Bool.true_eq_false, Bool.false_eq_true, Bool.not_true, Bool.not_false, if_true, if_false, and_true, true_and, memE, celE, w64, Nat.zero_add, Nat.add_zero, Nat.mul_one, putL, and_self, ldn, t0, t1, t7, t8, tm, e1, hlt']
    exact newQ_nil ⟨by rw [hall, List.drop_eq_nil_of_le (by omega)]; rfl, rfl⟩

theorem containsFunc_rc (m : Mem) (v fv : Value) (l : List Int) (f : Int → Bool) (h : IntsA m v l) (hf : TestA m fv f) :
    RC Try.prog 95 [v, fv] m fun r new => r = .bool (l.any f) ∧ new = [] := by
  refine rc_of_run mixed ok_slices_ContainsFunc (by simp) (go_start _ _ _ ?_)
  have hf' : TestA (roM m) fv f := by
    obtain ⟨g, cap, rfl, hg⟩ := hf
    exact ⟨g, cap, rfl, fun x m' hm => hg x m' fun id k v hv => hm id k v (by rw [rdc_roM]; exact hv)⟩
  simp (config := {implicitDefEqProofs := false, maxDischargeDepth := 20}) (disch := first | omega | (simp only [lenE]; done) | (simp only [lenE]; omega) | rfl | (simp only [lenE, markR_len]; done) | (simp only [lenE, markR_len]; omega)) only [runE, mapE, listE, initT_5, initT_6, initT_7, initT_8, resV, oneV, binA, unA, reduceCtorEq, Nat.reduceEqDiff, Nat.reduceAdd, Nat.reduceLT, Nat.reduceLeDiff, Nat.reduceMul, Nat.reduceSub, ↓reduceIte, decide_true, decide_false, Bool.true_eq_false, Bool.false_eq_true, Bool.not_true, Bool.not_false, if_true, if_false, and_true, true_and, memE, celE, w64, Nat.zero_add, Nat.add_zero, Nat.mul_one, putL, and_self, ldn, c_slices_ContainsFunc, r_slices_ContainsFunc]
  refine callH_rc (indexFunc_rc _ v fv l f h.ro hf') ?_
  rintro r new ⟨rfl, rfl⟩
  simp (config := {implicitDefEqProofs := false, maxDischargeDepth := 20}) (disch := first | omega | (simp only [lenE]; done) | (simp only [lenE]; omega) | rfl | (simp only [lenE, markR_len]; done) | (simp only [lenE, markR_len]; omega)) only [runE, mapE, listE, initT_5, initT_6, initT_7, initT_8, resV, oneV, binA, unA, reduceCtorEq, Nat.reduceEqDiff, Nat.reduceAdd, Nat.reduceLT, Nat.reduceLeDiff, Nat.reduceMul, Nat.reduceSub, ↓reduceIte, decide_true, decide_false, Bool.true_eq_false, Bool.false_eq_true, Bool.not_true, Bool.not_false, if_true, if_false, and_true, true_and, memE, celE, w64, Nat.zero_add, Nat.add_zero, Nat.mul_one, putL, and_self, ldn, ge_iff_le]
  exact newQ_nil ⟨by rw [(firstAt_any f l 0).1], rfl⟩

theorem isRow_rc (m : Mem) (v : Value) (l : List Int) (n : Nat) (most : Int) (h : IntsA m v l) :
    RC Try.prog 88 [v, .int .i64 n, .int .i64 most] m (AnsV (.bool (Go.Proofs.Ytpedjcagaeedjaa.rowB l n most))) := by
  refine rc_of_run mixed ok_impl_isRow (by simp) (go_start _ _ _ ?_)
  have hr := h.ro
  rw [rowB_all]
  by_cases hn : l.length = n
  · have hn' : ((l.length : Int) == n) = true := by simp; omega
    simp (config := {implicitDefEqProofs := false, maxDischargeDepth := 20}) (disch := first | omega | (simp only [lenE]; done) | (simp only [lenE]; omega) | rfl | (simp only [lenE, markR_len]; done) | (simp only [lenE, markR_len]; omega)) only [runE, mapE, listE, initT_5, initT_6, initT_7, initT_8, resV, oneV, binA, unA, reduceCtorEq, Nat.reduceEqDiff, Nat.reduceAdd, Nat.reduceLT, Nat.reduceLeDiff, Nat.reduceMul, Nat.reduceSub, ↓reduceIte, decide_true, decide_false, Bool.true_eq_false, Bool.false_eq_true, Bool.not_true, Bool.not_false, if_true, if_false, and_true, true_and, memE, celE, w64, Nat.zero_add, Nat.add_zero, Nat.mul_one, putL, and_self, ldn, c_impl_isRow, r_impl_isRow, hr.len, hn', eq_self]
    have hp : rdc (roM m ++ [⟨.own, 3, [.int .i64 most]⟩]) m.length 0 = some (.int .i64 most) := by simp (config := {implicitDefEqProofs := false, maxDischargeDepth := 20}) (disch := first | omega | (simp only [lenE]; done) | (simp only [lenE]; omega) | rfl | (simp only [lenE, markR_len]; done) | (simp only [lenE, markR_len]; omega)) only [runE, mapE, listE, initT_5, initT_6, initT_7, initT_8, resV, oneV, binA, unA, reduceCtorEq, Nat.reduceEqDiff, Nat.reduceAdd, Nat.reduceLT, Nat.reduceLeDiff, Nat.reduceMul, Nat.reduceSub, ↓reduceIte, decide_true, decide_false, Bool.true_eq_false, Bool.false_eq_true, Bool.not_true, Bool.not_false, if_true, if_false, and_true, true_and, memE, celE, w64, Nat.zero_add, Nat.add_zero, Nat.mul_one, putL, and_self, ldn]
    refine callH_rc (containsFunc_rc _ v _ l (fun x => !inB most x) (hr.ext _) (isRow1_test _ _ most hp)) ?_
    rintro r new ⟨rfl, rfl⟩
    simp (config := {implicitDefEqProofs := false, maxDischargeDepth := 20}) (disch := first | omega | (simp only [lenE]; done) | (simp only [lenE]; omega) | rfl | (simp only [lenE, markR_len]; done) | (simp only [lenE, markR_len]; omega)) only [runE, mapE, listE, initT_5, initT_6, initT_7, initT_8, resV, oneV, binA, unA, reduceCtorEq, Nat.reduceEqDiff, Nat.reduceAdd, Nat.reduceLT, Nat.reduceLeDiff, Nat.reduceMul, Nat.reduceSub, ↓reduceIte, decide_true, decide_false, Bool.true_eq_false, Bool.false_eq_true, Bool.not_true, Bool.not_false, if_true, if_false, and_true, true_and, memE, celE, w64, Nat.zero_add, Nat.add_zero, Nat.mul_one, putL, and_self, ldn]
    exact ⟨_, rfl, by (repeat (first | exact noRo_nil | assumption | apply noRo_own | apply noRo_dead | apply noRo_app)), by simp [hn, List.any_eq_not_all_not], by (repeat (first | exact noRo_nil | assumption | apply noRo_own | apply noRo_dead | apply noRo_app))⟩
  · have hn' : ((l.length : Int) == n) = false := by simp; omega
    simp (config := {implicitDefEqProofs := false, maxDischargeDepth := 20}) (disch := first | omega | (simp only [lenE]; done) | (simp only [lenE]; omega) | rfl | (simp only [lenE, markR_len]; done) | (simp only [lenE, markR_len]; omega)) only [runE, mapE, listE, initT_5, initT_6, initT_7, initT_8, resV, oneV, binA, unA, reduceCtorEq, Nat.reduceEqDiff, Nat.reduceAdd, Nat.reduceLT, Nat.reduceLeDiff, Nat.reduceMul, Nat.reduceSub, ↓reduceIte, decide_true, decide_false, Bool.true_eq_false, Bool.false_eq_true, Bool.not_true, Bool.not_false, if_true, if_false, and_true, true_and, memE, celE, w64, Nat.zero_add, Nat.add_zero, Nat.mul_one, putL, and_self, ldn, c_impl_isRow, r_impl_isRow, hr.len, hn']
    exact ⟨_, rfl, by (repeat (first | exact noRo_nil | assumption | apply noRo_own | apply noRo_dead | apply noRo_app)), by simp [hn], by (repeat (first | exact noRo_nil | assumption | apply noRo_own | apply noRo_dead | apply noRo_app))⟩

end Go.Proofs.Ytpedjcagaeedjaa.Ab
end
section
namespace Go.Proofs.Ytpedjcagaeedjaa.Ab
open Go Go.RowKit
set_option linter.unusedVariables false
set_option linter.unusedSimpArgs false
theorem bsl_none {m : Mem} : bslA m 3 1 0 [] [] = some (.slice (some ⟨m.length, 0, none⟩) 0 1, m ++ [⟨.own, 3, ([] : List Int).map (Value.int .i64)⟩]) := rfl
theorem bsl_one {m : Mem} {y : Int} : bslA m 3 1 1 [.int .i64 0] [(0, 1, .int .i64 y)] = some (.slice (some ⟨m.length, 0, none⟩) 1 1, m ++ [⟨.own, 3, [.int .i64 y]⟩]) := rfl

theorem sumTo_s {l : List Int} {k : Nat} (h : k < l.length) : sumTo l (k + 1) = sumTo l k + l.getD k 0 := by
  rw [sumTo_succ (List.getElem?_eq_getElem h), List.getD_eq_getElem?_getD, List.getElem?_eq_getElem h]; rfl
theorem l2Sum_rc (m : Mem) (v : Value) (l : List Int) (h : IntsA m v l) (hb : ∀ k : Nat, k ≤ l.length → -4611686018427387904 ≤ sumTo l k ∧ sumTo l k ≤ 4611686018427387904) :
    RC Try.prog 66 [v] m fun r new => r = .int .i64 (sumTo l l.length) ∧ new = [] := by
  refine rc_of_run mixed ok_spec_l2Sum (by simp) (go_start _ _ _ ?_)
  obtain ⟨e1, e2, e3, e4, -⟩ := h.ro
  simp (config := {implicitDefEqProofs := false, maxDischargeDepth := 20}) (disch := first | omega | (simp only [lenE]; done) | (simp only [lenE]; omega) | rfl | (simp only [lenE, markR_len]; done) | (simp only [lenE, markR_len]; omega)) only [runE, mapE, listE, initT_5, initT_6, initT_7, initT_8, resV, oneV, binA, unA, reduceCtorEq, Nat.reduceEqDiff, Nat.reduceAdd, Nat.reduceLT, Nat.reduceLeDiff, Nat.reduceMul, Nat.reduceSub, ↓reduceIte, decide_true, decide_false, Bool.true_eq_false, Bool.false_eq_true, Bool.not_true, Bool.not_false, if_true, if_false, and_true, true_and, memE, celE, w64, Nat.zero_add, Nat.add_zero, Nat.mul_one, putL, and_self, ldn, c_spec_l2Sum, r_spec_l2Sum]
  refine loop_inv mixed (fun s => ∃ k : Nat, k ≤ l.length ∧ s.t 0 = v ∧ s.t 3 = .int .i64 (sumTo l k) ∧ s.t 4 = .int .i64 k ∧ s.m = roM m) (fun s => l.length - (intOf (s.t 4)).toNat) ⟨0, by omega, rfl, rfl, rfl, rfl⟩ ?_
  rintro s ⟨k, hk, t0, t3, t4, tm⟩
  by_cases hlt : k < l.length
  · have hlt' : (k : Int) < l.length := by omega
    have b1 := hb (k + 1) (by omega)
    have b2 := sumTo_s hlt
    rw [b2] at b1
    simp (config := {implicitDefEqProofs := false, maxDischargeDepth := 20}) (disch := first | omega | (simp only [lenE]; done) | (simp only [lenE]; omega) | rfl | (simp only [lenE, markR_len]; done) | (simp only [lenE, markR_len]; omega)) only [runE, mapE, listE, initT_5, initT_6, initT_7, initT_8, resV, oneV, binA, unA, reduceCtorEq, Nat.reduceEqDiff, Nat.reduceAdd, Nat.reduceLT, Nat.reduceLeDiff, Nat.reduceMul, Nat.reduceSub, ↓reduceIte, decide_true, decide_false, Bool.true_eq_false, Bool.false_eq_true, Bool.not_true, Bool.not_false, if_true, if_false, and_true, true_and, memE, celE, w64, Nat.zero_add, Nat.add_zero, Nat.mul_one, putL, and_self, ldn, t0, t3, t4, tm, e1, e3 k hlt, e4 k hlt, hlt']
    refine ⟨⟨k + 1, by omega, by simp [b2]⟩, ?_⟩
    simp [intOf]; omega
  · have hlt' : ¬ ((k : Int) < l.length) := by omega
    have e : k = l.length := by omega
    simp (config := {implicitDefEqProofs := false, maxDischargeDepth := 20}) (disch := first | omega | (simp only [lenE]; done) | (simp only [lenE]; omega) | rfl | (simp only [lenE, markR_len]; done) | (simp only [lenE, markR_len]; omega)) only [runE, mapE, listE, initT_5, initT_6, initT_7, initT_8, resV, oneV, binA, unA, reduceCtorEq, Nat.reduceEqDiff, Nat.reduceAdd, Nat.reduceLT, Nat.reduceLeDiff, Nat.reduceMul, Nat.reduceSub, ↓reduceIte, decide_true, decide_false, Bool.true_eq_false, Bool.false_eq_true, Bool.not_true, Bool.not_false, if_true, if_false, and_true, true_and, memE, celE, w64, Nat.zero_add, Nat.add_zero, Nat.mul_one, putL, and_self, ldn, t0, t3, t4, tm, e1, hlt']
    exact newQ_nil ⟨by rw [e], rfl⟩

theorem sumOf_rc (m : Mem) (v : Value) (l : List Int) (h : IntsA m v l) (hb : ∀ k : Nat, k ≤ l.length → -4611686018427387904 ≤ sumTo l k ∧ sumTo l k ≤ 4611686018427387904) :
    RC Try.prog 87 [v] m fun r new => r = .int .i64 (sumTo l l.length) ∧ new = [] := by
  refine rc_of_run mixed ok_impl_sumOf (by simp) (go_start _ _ _ ?_)
  obtain ⟨e1, e2, e3, e4, -⟩ := h.ro
  simp (config := {implicitDefEqProofs := false, maxDischargeDepth := 20}) (disch := first | omega | (simp only [lenE]; done) | (simp only [lenE]; omega) | rfl | (simp only [lenE, markR_len]; done) | (simp only [lenE, markR_len]; omega)) only [runE, mapE, listE, initT_5, initT_6, initT_7, initT_8, resV, oneV, binA, unA, reduceCtorEq, Nat.reduceEqDiff, Nat.reduceAdd, Nat.reduceLT, Nat.reduceLeDiff, Nat.reduceMul, Nat.reduceSub, ↓reduceIte, decide_true, decide_false, Bool.true_eq_false, Bool.false_eq_true, Bool.not_true, Bool.not_false, if_true, if_false, and_true, true_and, memE, celE, w64, Nat.zero_add, Nat.add_zero, Nat.mul_one, putL, and_self, ldn, c_impl_sumOf, r_impl_sumOf, e1]
  refine loop_inv mixed (fun s => ∃ k : Nat, k ≤ l.length ∧ s.t 6 = v ∧ s.t 7 = .int .i64 l.length ∧ s.t 3 = .int .i64 (sumTo l k) ∧ s.t 8 = .int .i64 k ∧ s.m = roM m) (fun s => l.length - (intOf (s.t 8)).toNat) ⟨0, by omega, rfl, rfl, rfl, rfl, rfl⟩ ?_
  rintro s ⟨k, hk, t6, t7, t3, t8, tm⟩
  by_cases hlt : k < l.length
  · have hlt' : (k : Int) < l.length := by omega
    have b1 := hb (k + 1) (by omega)
    have b2 := sumTo_s hlt
    rw [b2] at b1
    simp (config := {implicitDefEqProofs := false, maxDischargeDepth := 20}) (disch := first | omega | (simp only [lenE]; done) | (simp only [lenE]; omega) | rfl | (simp only [lenE, markR_len]; done) | (simp only [lenE, markR_len]; omega)) only [runE, mapE, listE, initT_5, initT_6, initT_7, initT_8, resV, oneV, binA, unA, reduceCtorEq, Nat.reduceEqDiff, Nat.reduceAdd, Nat.reduceLT, Nat.reduceLeDiff, Nat.reduceMul, Nat.reduceSub, ↓reduceIte, decide_true, decide_false, Bool.true_eq_false, Bool.false_eq_true, Bool.not_true, Bool.not_false, if_true, if_false, and_true, true_and, memE, celE, w64, Nat.zero_add, Nat.add_zero, Nat.mul_one, putL, and_self, ldn, t6, t7, t3, t8, tm, e1, e3 k hlt, e4 k hlt, hlt']
    refine ⟨⟨k + 1, by omega, by simp [b2]⟩, ?_⟩
    simp [intOf]; omega
  · have hlt' : ¬ ((k : Int) < l.length) := by omega
    have e : k = l.length := by omega
    simp (config := {implicitDefEqProofs := false, maxDischargeDepth := 20}) (disch := first | omega | (simp only [lenE]; done) | (simp only [lenE]; omega) | rfl | (simp only [lenE, markR_len]; done) | (simp only [lenE, markR_len]; omega)) only [runE, mapE, listE, initT_5, initT_6, initT_7, initT_8, resV, oneV, binA, unA, reduceCtorEq, Nat.reduceEqDiff, Nat.reduceAdd, Nat.reduceLT, Nat.reduceLeDiff, Nat.reduceMul, Nat.reduceSub, ↓reduceIte, decide_true, decide_false, Bool.true_eq_false, Bool.false_eq_true, Bool.not_true, Bool.not_false, if_true, if_false, and_true, true_and, memE, celE, w64, Nat.zero_add, Nat.add_zero, Nat.mul_one, putL, and_self, ldn, t6, t7, t3, t8, tm, e1, hlt']
    exact newQ_nil ⟨by rw [e], rfl⟩

end Go.Proofs.Ytpedjcagaeedjaa.Ab
end
section
namespace Go.Proofs.Ytpedjcagaeedjaa.Ab
open Go Go.RowKit
set_option linter.unusedVariables false
set_option linter.unusedSimpArgs false
def BoxA (m : Mem) (id : Nat) (vs : List Value) : Prop := ∃ e, m[id]? = some ⟨.own, e, vs⟩
theorem BoxA.lt {m : Mem} {id : Nat} {vs : List Value} (h : BoxA m id vs) : id < m.length := by
  obtain ⟨_, h⟩ := h
  exact (List.getElem?_eq_some_iff.1 h).1
theorem BoxA.ext {m : Mem} {id : Nat} {vs : List Value} (h : BoxA m id vs) (new : Mem) : BoxA (m ++ new) id vs := by
  have hl := h.lt
  obtain ⟨e, h⟩ := h
  exact ⟨e, by rw [List.getElem?_append_left hl]; exact h⟩
theorem BoxA.here (m : Mem) (e : TypeId) (vs : List Value) {id : Nat} (h : id = m.length) : BoxA (m ++ [⟨.own, e, vs⟩]) id vs := ⟨e, by rw [h]; simp⟩
theorem ext_2_0 (a b : Value) : extA 0 (.tuple #[a, b]) = some a := rfl
theorem ext_2_1 (a b : Value) : extA 1 (.tuple #[a, b]) = some b := rfl
theorem ext_3_0 (a b c : Value) : extA 0 (.tuple #[a, b, c]) = some a := rfl
theorem ext_3_1 (a b c : Value) : extA 1 (.tuple #[a, b, c]) = some b := rfl
theorem ext_3_2 (a b c : Value) : extA 2 (.tuple #[a, b, c]) = some c := rfl
end Go.Proofs.Ytpedjcagaeedjaa.Ab
end
section
namespace Go.Proofs.Ytpedjcagaeedjaa.Ab
open Go Go.RowKit
set_option linter.unusedVariables false
set_option linter.unusedSimpArgs false
def Ext (m M : Mem) : Prop := ∃ new, M = roM m ++ new ∧ NoRo new
theorem Ext.refl (m : Mem) : Ext m (roM m) := ⟨[], by simp, noRo_nil⟩
theorem Ext.app {m M new : Mem} (h : Ext m M) (hn : NoRo new) : Ext m (M ++ new) := by
  obtain ⟨n0, rfl, h0⟩ := h
  exact ⟨n0 ++ new, by rw [List.append_assoc], noRo_app h0 hn⟩
theorem Ext.one {m M : Mem} (h : Ext m M) (e : TypeId) (cs : List Value) : Ext m (M ++ [⟨.own, e, cs⟩]) := h.app (noRo_own noRo_nil)
theorem Ext.len {m M : Mem} (h : Ext m M) : m.length ≤ M.length := by
  obtain ⟨n0, rfl, h0⟩ := h
  simp [roM_len]
theorem Ext.ints {m M : Mem} (h : Ext m M) {v : Value} {l : List Int} (hi : IntsA (roM m) v l) : IntsA M v l := by
  obtain ⟨n0, rfl, h0⟩ := h
  exact hi.ext _
theorem noRo_set {l : Mem} {i : Nat} (h : NoRo l) : NoRo (l.set i deadB) := fun b hb => by
  rcases List.mem_or_eq_of_mem_set hb with h1 | h1
  · exact h b h1
  · rw [h1]; simp [deadB]
theorem Ext.dead {m M : Mem} (h : Ext m M) {id : Nat} (hid : m.length ≤ id) : Ext m (M.set id deadB) := by
  obtain ⟨n0, rfl, h0⟩ := h
  exact ⟨n0.set (id - m.length) deadB, by rw [List.set_append_right _ _ (by rw [roM_len]; exact hid), roM_len], noRo_set h0⟩
theorem OwnR.dead {m : Mem} {id id' : Nat} {l : List Int} (h : OwnR m id' l) (hne : id ≠ id') : OwnR (m.set id deadB) id' l := by
  unfold OwnR; rw [List.getElem?_set_ne hne]; exact h
theorem app_gen {M : Mem} {l : List Int} {x : Int} {id : Nat} (h : OwnR M id l) (hb : l.length ≤ 1048576) :
    appP (M ++ [⟨.own, 3, [.int .i64 x]⟩]) 3 1 8 (.slice (some ⟨id, 0, none⟩) l.length 1) (.slice (some ⟨M.length, 0, none⟩) 1 1) =
      some (.slice (some ⟨M.length + 1, 0, none⟩) (l.length + 1) 1, M.set id deadB ++ [⟨.own, 3, [.int .i64 x]⟩] ++ [⟨.own, 3, (l ++ [x]).map (Value.int .i64)⟩]) := by
  have hl := h.lt
  have e1 : slR (M ++ [⟨.own, 3, [.int .i64 x]⟩]) 1 (.slice (some ⟨M.length, 0, none⟩) 1 1) = some [.int .i64 x] := by
    simp only [slR, rdl, Nat.mul_one]
    simp
  unfold appP
  rw [e1]
  simp only [onesB_int, onesB_nil, if_true, appA, lenOfA]
  rw [List.getElem?_append_left hl, show M[id]? = some (rowB l) from h]
  simp only [List.length_map, Nat.mul_one, true_and]
  rw [if_pos (by omega), List.set_append_left _ _ hl]
  simp
theorem ext_ansV {m M : Mem} {x v : Value} (h : Ext m M) (hv : v = x) : newQ m (AnsV x) v M := by
  obtain ⟨n0, rfl, h0⟩ := h
  exact ⟨n0, rfl, h0, hv, h0⟩
end Go.Proofs.Ytpedjcagaeedjaa.Ab
end
section
namespace Go.Proofs.Ytpedjcagaeedjaa.Ab
open Go Go.RowKit
set_option linter.unusedVariables false
set_option linter.unusedSimpArgs false
theorem goG_undef {P : Program} {n : Nat} (s : St) (k : Kont) (d : Option Nat) (rs : List ARow) (w : Bool) (x : AOp) : goG P n undef w d x rs k s = goR P n rs k (s.putT d undef) := rfl
def Grow (M0 M : Mem) : Prop := ∃ R, M = M0 ++ R ∧ NoRo R
theorem Grow.refl (M : Mem) : Grow M M := ⟨[], by simp, noRo_nil⟩
theorem Grow.app {M0 M new : Mem} (h : Grow M0 M) (hn : NoRo new) : Grow M0 (M ++ new) := by
  obtain ⟨R, rfl, h0⟩ := h
  exact ⟨R ++ new, by rw [List.append_assoc], noRo_app h0 hn⟩
theorem Grow.one {M0 M : Mem} (h : Grow M0 M) (e : TypeId) (cs : List Value) : Grow M0 (M ++ [⟨.own, e, cs⟩]) := h.app (noRo_own noRo_nil)
theorem Grow.len {M0 M : Mem} (h : Grow M0 M) : M0.length ≤ M.length := by
  obtain ⟨R, rfl, h0⟩ := h
  simp
theorem Grow.trans {A B C : Mem} (h : Grow A B) (h' : Grow B C) : Grow A C := by
  obtain ⟨R, rfl, h0⟩ := h
  obtain ⟨S, rfl, h1⟩ := h'
  exact ⟨R ++ S, by rw [List.append_assoc], noRo_app h0 h1⟩
theorem noRo_setO {l : Mem} {i : Nat} {e : TypeId} {cs : List Value} (h : NoRo l) : NoRo (l.set i ⟨.own, e, cs⟩) := fun b hb => by
  rcases List.mem_or_eq_of_mem_set hb with h1 | h1
  · exact h b h1
  · rw [h1]; simp
theorem Grow.dead {M0 M : Mem} (h : Grow M0 M) {id : Nat} (hid : M0.length ≤ id) : Grow M0 (M.set id deadB) := by
  obtain ⟨R, rfl, h0⟩ := h
  exact ⟨R.set (id - M0.length) deadB, by rw [List.set_append_right _ _ hid], noRo_set h0⟩
theorem Grow.put {M0 M : Mem} (h : Grow M0 M) {id : Nat} (hid : M0.length ≤ id) (e : TypeId) (cs : List Value) : Grow M0 (M.set id ⟨.own, e, cs⟩) := by
  obtain ⟨R, rfl, h0⟩ := h
  exact ⟨R.set (id - M0.length) ⟨.own, e, cs⟩, by rw [List.set_append_right _ _ hid], noRo_setO h0⟩
theorem Grow.rd {M0 M : Mem} (h : Grow M0 M) {id k : Nat} {v : Value} (hv : rdc M0 id k = some v) : rdc M id k = some v := by
  obtain ⟨R, rfl, h0⟩ := h
  exact rdc_ext hv
theorem Grow.ints {M0 M : Mem} (h : Grow M0 M) {v : Value} {l : List Int} (hi : IntsA M0 v l) : IntsA M v l := by
  obtain ⟨R, rfl, h0⟩ := h
  exact hi.ext R
theorem Grow.own {M0 M : Mem} (h : Grow M0 M) {id : Nat} {l : List Int} (hi : OwnR M0 id l) : OwnR M id l := by
  obtain ⟨R, rfl, h0⟩ := h
  exact hi.ext R
theorem Ext.put {m M : Mem} (h : Ext m M) {id : Nat} (hid : m.length ≤ id) (e : TypeId) (cs : List Value) : Ext m (M.set id ⟨.own, e, cs⟩) := by
  obtain ⟨new, rfl, hn⟩ := h
  exact ⟨new.set (id - m.length) ⟨.own, e, cs⟩, by rw [List.set_append_right _ _ (by rw [roM_len]; exact hid), roM_len], noRo_setO hn⟩
theorem OwnR.st {M : Mem} {id off : Nat} {L : List Int} {x : Int} (h : OwnR M id L) (ho : off < L.length) : stA M id off [.int .i64 x] = some (M.set id (rowB (L.set off x))) := by
  rw [stA_at (show M[id]? = some ⟨.own, 3, L.map (Value.int .i64)⟩ from h) (by simpa using ho) rfl]
  unfold rowB
  rw [List.map_set]
theorem OwnR.set_self {M : Mem} {id : Nat} {L L' : List Int} (h : OwnR M id L) : OwnR (M.set id (rowB L')) id L' := by
  unfold OwnR; rw [List.getElem?_set_self h.lt]
theorem OwnR.set_ne {M : Mem} {id id' : Nat} {L : List Int} {b : Blk} (h : OwnR M id' L) (hne : id ≠ id') : OwnR (M.set id b) id' L := by
  unfold OwnR; rw [List.getElem?_set_ne hne]; exact h
def cutL (l : List Int) (lo hi : Nat) : List Int := (l.take hi).drop lo
theorem cutL_len {l : List Int} {lo hi : Nat} (h : hi ≤ l.length) : (cutL l lo hi).length = hi - lo := by
  unfold cutL; rw [List.length_drop, List.length_take, Nat.min_eq_left h]
theorem cutL_at {l : List Int} {lo hi k : Nat} (hk : lo + k < hi) : (cutL l lo hi).getD k 0 = l.getD (lo + k) 0 := by
  unfold cutL
  rw [List.getD_eq_getElem?_getD, List.getD_eq_getElem?_getD, List.getElem?_drop, List.getElem?_take, if_pos hk]
theorem IntsA.lenOf {m : Mem} {v : Value} {l : List Int} (h : IntsA m v l) : lenOfA v = l.length := by
  have := h.len
  unfold lenA at this
  split at this
  · simp only [Option.some.injEq, Value.int.injEq, true_and] at this
    simp only [lenOfA]; omega
  · cases this
theorem IntsA.form {m : Mem} {v : Value} {l : List Int} (h : IntsA m v l) : (v = .slice none 0 0 ∧ l = []) ∨ ∃ id off fl, v = .slice (some ⟨id, off, none⟩) l.length fl := by
  have h1 := h.src
  have h2 := h.lenOf
  unfold slR at h1
  split at h1
  · exact .inl ⟨rfl, by simpa [lenOfA] using h2.symm⟩
  · simp only [lenOfA] at h2
    subst h2
    exact .inr ⟨_, _, _, rfl⟩
  · cases h1
theorem IntsA.cut {m : Mem} {v : Value} {l : List Int} (h : IntsA m v l) {lo hi : Nat} (h1 : lo ≤ hi) (h2 : hi ≤ l.length) :
    ∃ v', slcA 1 v (some (.int .i64 lo)) (some (.int .i64 hi)) = some v' ∧ IntsA m v' (cutL l lo hi) := by
  rcases h.form with ⟨rfl, rfl⟩ | ⟨id, off, fl, rfl⟩
  · have e1 : hi = 0 := by simpa using h2
    have e2 : lo = 0 := by omega
    subst e1 e2
    exact ⟨.slice none 0 0, rfl, IntsA.nil m⟩
  · refine ⟨.slice (some ⟨id, off + lo, none⟩) (hi - lo) 0, ?_, ?_⟩
    · simp [slcA, boundA, h1, h2]
    · have hb := h.bd
      rw [← cutL_len h2]
      refine IntsA.of_block (by rw [cutL_len h2]; omega) (fun k hk => ?_) ?_
      · rw [cutL_len h2] at hk
        rw [cutL_at (by omega)]
        have := h.ld (lo + k) (by omega)
        simp only [pAt, ldA] at this
        rw [Nat.add_assoc]; exact this
      · have hs := h.src
        simp only [slR, Nat.mul_one, rdl] at hs ⊢
        split at hs
        · rename_i b hb
          rw [cutL_len h2]
          split at hs
          · cases hs
          · split at hs
            · rename_i hd hle
              rw [if_neg hd, if_pos (by omega)]
              have hs' := Option.some.inj hs
              unfold cutL
              rw [List.map_drop, List.map_take, ← hs', List.take_take, List.drop_take, List.drop_drop, Nat.min_eq_left h2]
            · cases hs
        · cases hs

theorem IntsA.pre {m : Mem} {v : Value} {l : List Int} (h : IntsA m v l) {hi : Nat} (h2 : hi ≤ l.length) :
    ∃ v', slcA 1 v none (some (.int .i64 hi)) = some v' ∧ IntsA m v' (cutL l 0 hi) := by
  obtain ⟨x, e, hx⟩ := h.cut (lo := 0) (Nat.zero_le hi) h2
  rcases h.form with ⟨rfl, rfl⟩ | ⟨id, off, fl, rfl⟩
  · have e1 : hi = 0 := by simpa using h2
    subst e1
    exact ⟨.slice none 0 0, rfl, IntsA.nil m⟩
  · have hs : slcA 1 (.slice (some ⟨id, off, none⟩) l.length fl) none (some (.int .i64 hi)) = some (.slice (some ⟨id, off, none⟩) hi fl) := by
      simp [slcA, boundA, h2]
    have hs2 : slcA 1 (.slice (some ⟨id, off, none⟩) l.length fl) (some (.int .i64 0)) (some (.int .i64 hi)) = some (.slice (some ⟨id, off, none⟩) hi 0) := by
      simp [slcA, boundA, h2]
    have e0 : (((0 : Nat) : Int)) = 0 := rfl
    rw [e0, hs2] at e
    cases e
    have hc : (cutL l 0 hi).length = hi := by rw [cutL_len h2, Nat.sub_zero]
    refine ⟨_, hs, ?_⟩
    have a := hx
    refine ⟨a.len, a.bd, fun k hk => ?_, fun k hk => ?_, ?_⟩
    · have := a.at_ k hk
      simp only [iadA, pAt] at this ⊢
      exact this
    · exact a.ld k hk
    · exact a.src
theorem Ext.rd {m M : Mem} (h : Ext m M) {id k : Nat} {v : Value} (hv : rdc m id k = some v) : rdc M id k = some v := by
  obtain ⟨n0, rfl, h0⟩ := h
  exact rdc_ext (by rw [rdc_roM]; exact hv)
end Go.Proofs.Ytpedjcagaeedjaa.Ab
end
section
namespace Go.Proofs.Ytpedjcagaeedjaa.Ab
open Go Go.RowKit
set_option linter.unusedVariables false
set_option linter.unusedSimpArgs false
theorem CurA.cw {M M' : Mem} {cb id a : Nat} {l : List Int} (h : CurA M cb l id a) (hlen : M.length ≤ M'.length) (hl : ∀ i, i < M.length → M'[i]? = M[i]?) : CurA M' cb l id a := by
  obtain ⟨seed, hb⟩ := h.box
  have h1 := (List.getElem?_eq_some_iff.1 h.code).1
  exact ⟨(hl cb h1).trans h.code, h.byte, h.few, seed, (hl id h.lt).trans hb⟩
theorem CurA.ext {M : Mem} {cb id a : Nat} {l : List Int} (h : CurA M cb l id a) (new : Mem) : CurA (M ++ new) cb l id a :=
  h.cw (by simp) fun i hi => List.getElem?_append_left hi
theorem Cw.ext {id : Nat} {M M' : Mem} (h : Cw id M M') {new : Mem} (hn : NoRo new) : Cw id M (M' ++ new) :=
  ⟨by have := h.len; simp; omega, fun i h1 h2 => by rw [List.getElem?_append_left (by have := h.len; omega)]; exact h.old i h1 h2, fun i b h1 h2 => by
    by_cases hi : i < M'.length
    · rw [List.getElem?_append_left hi] at h2; exact h.new i b h1 h2
    · rw [List.getElem?_append_right (by omega)] at h2; exact hn b (List.mem_of_getElem? h2)⟩
theorem Cw.pre {id : Nat} {M new M' : Mem} (h : Cw id (M ++ new) M') (hn : NoRo new) (hid : id < M.length) : Cw id M M' :=
  ⟨by have := h.len; simp at this; omega, fun i h1 h2 => (h.old i h1 (by simp; omega)).trans (List.getElem?_append_left h2), fun i b h1 h2 => by
    by_cases hi : (M ++ new).length ≤ i
    · exact h.new i b hi h2
    · rw [h.old i (by omega) (by omega), List.getElem?_append_right h1] at h2
      exact hn b (List.mem_of_getElem? h2)⟩
theorem among_new (M : Mem) (cb id a : Nat) (l : List Int) (xs : List Int) {i n : Nat} (h : CurA M cb l id a) (ha : a ≤ 999999998) (hi : i = M.length) (hn : n = xs.length) (h1 : 1 ≤ xs.length) (h2 : xs.length ≤ 1000) :
    AC Try.prog 77 [.pointer (some ⟨id, 0, none⟩), .slice (some ⟨i, 0, none⟩) n 1] (M ++ [rowB xs]) fun r M' => ∃ x ∈ xs, r = .int .i64 x ∧ Cw id M M' ∧ ∃ a', a' ≤ a + 2 ∧ CurA M' cb l id a' := by
  subst hi hn
  have hid := h.lt
  have ho : OwnR (M ++ [rowB xs]) M.length xs := by unfold OwnR; simp
  refine (among_ac (M ++ [rowB xs]) cb id a l _ xs (h.ext _) ha (ho.ints (by omega) 1) (fun M' w => (w.own ho (by omega)).ints (by omega) 1) h1 h2).mono ?_
  rintro r M' ⟨x, hx, hr, w, k⟩
  exact ⟨x, hx, hr, w.pre (noRo_own noRo_nil) hid, k⟩

theorem CurA.put {M : Mem} {cb id a r : Nat} {l : List Int} (h : CurA M cb l id a) (hr : r ≠ cb) (hi : r ≠ id) (b : Blk) : CurA (M.set r b) cb l id a := by
  obtain ⟨s, hb⟩ := h.box
  exact ⟨by rw [List.getElem?_set_ne hr]; exact h.code, h.byte, h.few, s, by rw [List.getElem?_set_ne hi]; exact hb⟩
theorem Cw.put {id r : Nat} {M M' : Mem} (h : Cw id M M') (hr : M.length ≤ r) {b : Blk} (hb : b.kd ≠ .ro) : Cw id M (M'.set r b) := by
  refine ⟨by simpa using h.len, fun i h1 h2 => by rw [List.getElem?_set_ne (by omega)]; exact h.old i h1 h2, fun i c h1 h2 => ?_⟩
  by_cases e : r = i
  · subst e
    rcases at_set h2 with ⟨hne, _⟩ | ⟨_, hc, _⟩
    · exact absurd rfl hne
    · rw [← hc]; exact hb
  · rw [List.getElem?_set_ne e] at h2; exact h.new i c h1 h2
theorem CurA.cblt {M : Mem} {cb id a : Nat} {l : List Int} (h : CurA M cb l id a) : cb < M.length := (List.getElem?_eq_some_iff.1 h.code).1
structure Dr (M M' : Mem) (cb id a r : Nat) (l L : List Int) : Prop where
  hid : id < M.length
  hcb : cb < M.length
  cw : Cw id M M'
  cur : CurA M' cb l id a
  own : OwnR M' r L
  ge : M.length ≤ r
section
variable {M M' M2 : Mem} {cb id a a2 r : Nat} {l L : List Int}
theorem Dr.draw (h : Dr M M' cb id a r l L) (w : Cw id M' M2) (k : CurA M2 cb l id a2) : Dr M M2 cb id a2 r l L :=
  ⟨h.hid, h.hcb, Cw.trans h.hid h.cw w, k, w.own h.own (by have := h.hid; have := h.ge; omega), h.ge⟩
theorem Dr.ext (h : Dr M M' cb id a r l L) {new : Mem} (hn : NoRo new) : Dr M (M' ++ new) cb id a r l L :=
  ⟨h.hid, h.hcb, h.cw.ext hn, h.cur.ext new, h.own.ext new, h.ge⟩
theorem Dr.new (hid : id < M.length) (hcb : cb < M.length) (w : Cw id M M') (k : CurA M' cb l id a) {r : Nat} (hr : r = M'.length) (L : List Int) : Dr M (M' ++ [rowB L]) cb id a r l L := by
  subst hr
  exact ⟨hid, hcb, w.ext (noRo_own noRo_nil), k.ext _, by unfold OwnR; simp, w.len⟩
theorem Dr.app (h : Dr M M' cb id a r l L) (x : Int) (hl : L.length ≤ 1000) {i : Nat} (hi : i = M'.length) : ∃ M2,
    appP (M' ++ [⟨.own, 3, [.int .i64 x]⟩]) 3 1 8 (.slice (some ⟨r, 0, none⟩) L.length 1) (.slice (some ⟨i, 0, none⟩) 1 1) = some (.slice (some ⟨M'.length + 1, 0, none⟩) (L.length + 1) 1, M2) ∧
    Dr M M2 cb id a (M'.length + 1) l (L ++ [x]) := by
  subst hi
  have hge := h.ge
  have hlt := h.hid
  have hlc := h.hcb
  refine ⟨_, app_gen h.own (by omega), ?_⟩
  have w : Cw id M (M'.set r deadB ++ [⟨.own, 3, [.int .i64 x]⟩]) := (h.cw.put hge (by simp [deadB])).ext (noRo_own noRo_nil)
  have k : CurA (M'.set r deadB ++ [⟨.own, 3, [.int .i64 x]⟩]) cb l id a := (h.cur.put (by omega) (by omega) deadB).ext _
  have := Dr.new hlt hlc w k (r := M'.length + 1) (by simp) (L ++ [x])
  simpa [rowB] using this
theorem Dr.st (h : Dr M M' cb id a r l L) {j : Nat} (hj : j < L.length) (x : Int) : stA M' r j [.int .i64 x] = some (M'.set r (rowB (L.set j x))) ∧ Dr M (M'.set r (rowB (L.set j x))) cb id a r l (L.set j x) := by
  have hge := h.ge
  have hlt := h.hid
  have hlc := h.hcb
  exact ⟨h.own.st hj, h.hid, h.hcb, h.cw.put hge (by simp), h.cur.put (by omega) (by omega) _, h.own.set_self, hge⟩
end
end Go.Proofs.Ytpedjcagaeedjaa.Ab
end
section
namespace Go.Proofs.Ytpedjcagaeedjaa.Ab
open Go Go.RowKit
set_option linter.unusedVariables false
set_option linter.unusedSimpArgs false
theorem app_genK {M : Mem} {l : List Int} {x : Int} {id : Nat} (h : OwnR M id l) (hb : l.length ≤ 1048576) :
    appP (M ++ [⟨.own, 3, [.int .i64 x]⟩]) 3 1 8 (.slice (some ⟨id, 0, none⟩) l.length 1) (.slice (some ⟨M.length, 0, none⟩) 1 1) =
      some (.slice (some ⟨M.length + 1, 0, none⟩) (l.length + 1) 1, M.set id deadB ++ [⟨.own, 3, [.int .i64 x]⟩] ++ [⟨.own, 3, (l ++ [x]).map (Value.int .i64)⟩]) := by
  have hl := h.lt
  have e1 : slR (M ++ [⟨.own, 3, [.int .i64 x]⟩]) 1 (.slice (some ⟨M.length, 0, none⟩) 1 1) = some [.int .i64 x] := by
    simp only [slR, rdl, Nat.mul_one]
    simp
  unfold appP
  rw [e1]
  simp only [onesB_int, onesB_nil, if_true, appA, lenOfA]
  rw [List.getElem?_append_left hl, show M[id]? = some (rowB l) from h]
  simp only [List.length_map, Nat.mul_one, true_and]
  rw [if_pos (by omega), List.set_append_left _ _ hl]
  simp
def Gr (M : Mem) (v : Value) (l : List Int) (r : Nat) : Prop := (v = .slice none 0 0 ∧ l = []) ∨ (v = .slice (some ⟨r, 0, none⟩) l.length 1 ∧ l ≠ [] ∧ OwnR M r l)
theorem Gr.ints {M : Mem} {v : Value} {l : List Int} {r : Nat} (h : Gr M v l r) (hl : l.length ≤ 1000) : IntsA M v l := by
  rcases h with ⟨rfl, rfl⟩ | ⟨rfl, _, ho⟩
  · exact IntsA.nil M
  · exact ho.ints (by omega) 1
theorem Gr.app {M : Mem} {v : Value} {l : List Int} {r : Nat} (h : Gr M v l r) (hl : l.length ≤ 1000) (x : Int) : ∃ M1, appP (M ++ [⟨.own, 3, [.int .i64 x]⟩]) 3 1 8 v (.slice (some ⟨M.length, 0, none⟩) 1 1) = some (.slice (some ⟨M.length + 1, 0, none⟩) (l.length + 1) 1, M1) ∧
    M1.length = M.length + 2 ∧ OwnR M1 (M.length + 1) (l ++ [x]) ∧ (∀ i, i < M.length → (l ≠ [] → i ≠ r) → M1[i]? = M[i]?) ∧ ∀ (i : Nat) (b : Blk), (i = r ∧ l ≠ [] ∨ M.length ≤ i) → M1[i]? = some b → b.kd ≠ .ro := by
  rcases h with ⟨rfl, rfl⟩ | ⟨rfl, hne, ho⟩
  · refine ⟨M ++ [⟨.own, 3, [.int .i64 x]⟩] ++ [⟨.own, 3, [.int .i64 x]⟩], ?_, by simp, ?_, ?_, ?_⟩
    · have e1 : slR (M ++ [⟨.own, 3, [.int .i64 x]⟩]) 1 (.slice (some ⟨M.length, 0, none⟩) 1 1) = some [.int .i64 x] := by
        simp only [slR, rdl, Nat.mul_one]
        simp
      unfold appP
      rw [e1]
      simp [onesB_int, onesB_nil, appA, lenOfA]
    · unfold OwnR
      rw [List.getElem?_append_right (by simp)]
      simp
    · intro i hi _
      rw [List.getElem?_append_left (by simp; omega), List.getElem?_append_left hi]
    · intro i b hi hb
      have hi : M.length ≤ i := by
        rcases hi with ⟨_, h⟩ | h
        · exact absurd rfl h
        · exact h
      rw [List.append_assoc, List.getElem?_append_right hi] at hb
      match i - M.length, hb with
      | 0, hb => simp at hb; rw [← hb]; simp
      | 1, hb => simp at hb; rw [← hb]; simp
  · refine ⟨_, app_genK ho (by omega), by simp, ?_, ?_, ?_⟩
    · unfold OwnR
      rw [List.getElem?_append_right (by simp)]
      simp
    · intro i hi hir
      rw [List.getElem?_append_left (by simp; omega), List.getElem?_append_left (by simpa using hi), List.getElem?_set_ne (Ne.symm (hir hne))]
    · intro i b hi hb
      by_cases hlt : i < M.length
      · have hir : i = r := by
          rcases hi with ⟨h, _⟩ | h
          · exact h
          · omega
        subst hir
        rw [List.getElem?_append_left (by simp; omega), List.getElem?_append_left (by simpa using hlt), List.getElem?_set_self hlt] at hb
        cases hb
        simp [deadB]
      · rw [List.append_assoc, List.getElem?_append_right (by simp; omega)] at hb
        simp only [List.length_set] at hb
        match i - M.length, hb with
        | 0, hb => simp at hb; rw [← hb]; simp
        | 1, hb => simp at hb; rw [← hb]; simp
end Go.Proofs.Ytpedjcagaeedjaa.Ab
end
section
namespace Go.Proofs.Ytpedjcagaeedjaa
open Go.RowKit Go.ChangeShapes Go.WideShapes Go.ChangeAt
open Go.WideMaps Go.WideElems
set_option linter.unusedVariables false
section
variable {H : Type} {enc : TypeId × Value → H} {W : World}
def pairC (p : Int × Int) : List Value := [.int .i64 p.1, .int .i64 p.2]
def pairsC (L : List (Int × Int)) : List Value := (L.map pairC).flatten
theorem pairsC_at : ∀ (L : List (Int × Int)) (k : Nat), k < L.length → (pairsC L)[k * 2]? = some (.int .i64 (L.getD k (0, 0)).1) ∧ (pairsC L)[k * 2 + 1]? = some (.int .i64 (L.getD k (0, 0)).2)
  | p :: L, 0, _ => ⟨rfl, rfl⟩
  | p :: L, k + 1, h => by
    have ih := pairsC_at L k (by simpa using h)
    have e1 : (k + 1) * 2 = k * 2 + 1 + 1 := by omega
    rw [e1]
    exact ⟨ih.1, ih.2⟩
  | [], k, h => absurd h (by simp)
end
end Go.Proofs.Ytpedjcagaeedjaa
end
section
namespace Go.Proofs.Ytpedjcagaeedjaa.Ab
open Go Go.RowKit
set_option linter.unusedVariables false
set_option linter.unusedSimpArgs false
def Lv (lo hi : Nat) (m : Mem) (P : Mem → Prop) : Prop := lo ≤ hi ∧ hi ≤ m.length ∧ ∀ m' : Mem, (∀ i, lo ≤ i → i < hi → m'[i]? = m[i]?) → P m'
def But (lo hi : Nat) (m m' : Mem) : Prop := m.length ≤ m'.length ∧ ∀ i, i < m.length → (i < lo ∨ hi ≤ i) → m'[i]? = m[i]?
section
variable {lo hi a b : Nat} {m m' : Mem} {P : Mem → Prop}
theorem Lv.now (h : Lv lo hi m P) : P m := h.2.2 m fun _ _ _ => rfl
theorem Lv.ext (h : Lv lo hi m P) (new : Mem) : Lv lo hi (m ++ new) P :=
  ⟨h.1, by have := h.2.1; rw [List.length_append]; omega, fun m' h' => h.2.2 m' fun i h1 h2 => by rw [h' i h1 h2, List.getElem?_append_left (by have := h.2.1; omega)]⟩
theorem Lv.mono {Q : Mem → Prop} (h : Lv lo hi m P) (hq : ∀ M, P M → Q M) : Lv lo hi m Q := ⟨h.1, h.2.1, fun m' h' => hq _ (h.2.2 m' h')⟩
theorem Lv.ro (h : Lv lo hi m P) (hp : ∀ M, P M → P (roM M)) : P (roM m) := hp _ h.now
theorem Lv.all (hx : ∀ new, P (m ++ new)) : Lv 0 m.length m P :=
  ⟨Nat.zero_le _, Nat.le_refl _, fun m' h' => by
    have e : m' = m ++ m'.drop m.length := by
      apply List.ext_getElem?
      intro i
      by_cases hi : i < m.length
      · rw [List.getElem?_append_left hi]; exact h' i (by omega) hi
      · rw [List.getElem?_append_right (by omega), List.getElem?_drop]; congr 1; omega
    rw [e]; exact hx _⟩
theorem But.refl (lo hi : Nat) (m : Mem) : But lo hi m m := ⟨Nat.le_refl _, fun _ _ _ => rfl⟩
theorem But.ext (h : But lo hi m m') (new : Mem) : But lo hi m (m' ++ new) :=
  ⟨by have := h.1; rw [List.length_append]; omega, fun i h1 h2 => by rw [List.getElem?_append_left (by have := h.1; omega)]; exact h.2 i h1 h2⟩
theorem But.set (h : But lo hi m m') {id : Nat} (h1 : lo ≤ id) (h2 : id < hi) (x : Blk) : But lo hi m (m'.set id x) :=
  ⟨by rw [List.length_set]; exact h.1, fun i h3 h4 => by rw [List.getElem?_set_ne (by omega)]; exact h.2 i h3 h4⟩
theorem But.trans {m2 : Mem} (h : But lo hi m m') (h' : But lo hi m' m2) : But lo hi m m2 :=
  ⟨Nat.le_trans h.1 h'.1, fun i h1 h2 => by rw [h'.2 i (by have := h.1; omega) h2]; exact h.2 i h1 h2⟩
theorem But.base {new : Mem} (h : But lo hi (m ++ new) m') : But lo hi m m' :=
  ⟨by have := h.1; rw [List.length_append] at this; omega, fun i h1 h2 => by rw [h.2 i (by rw [List.length_append]; omega) h2, List.getElem?_append_left h1]⟩
end
def AnsO (m : Mem) (O : Nat → Nat → Mem → Value → Prop) (f : Value → Value) (r : Value) (new : Mem) : Prop :=
  NoRo new ∧ ∃ v, r = f v ∧ Lv m.length (m.length + new.length) (m ++ new) fun M => O m.length (m.length + new.length) M v
theorem ext_ansO {m M : Mem} {O : Nat → Nat → Mem → Value → Prop} {f : Value → Value} {v : Value} (h : Ext m M) (hO : ∀ M', (∀ i, m.length ≤ i → i < M.length → M'[i]? = M[i]?) → O m.length M.length M' v) : newQ m (AnsO m O f) (f v) M := by
  obtain ⟨n0, rfl, h0⟩ := h
  have hl : (roM m ++ n0).length = m.length + n0.length := by rw [List.length_append, roM_len]
  refine ⟨n0, rfl, h0, h0, v, rfl, by omega, by rw [List.length_append]; omega, fun M' hM => ?_⟩
  rw [← hl]
  refine hO M' fun i h1 h2 => ?_
  rw [hl] at h2
  rw [hM i h1 h2, List.getElem?_append_right h1, List.getElem?_append_right (by rw [roM_len]; exact h1), roM_len]

def OwnB (M : Mem) (id : Nat) (e : TypeId) (cs : List Value) : Prop := M[id]? = some ⟨.own, e, cs⟩
section
variable {M M' : Mem} {id id' : Nat} {e e' : TypeId} {cs cs' : List Value}
theorem OwnB.lt (h : OwnB M id e cs) : id < M.length := (List.getElem?_eq_some_iff.1 h).1
theorem OwnB.ext (h : OwnB M id e cs) (R : Mem) : OwnB (M ++ R) id e cs := by
  unfold OwnB; rw [List.getElem?_append_left h.lt]; exact h
theorem OwnB.set_ne (h : OwnB M id' e cs) (hne : id ≠ id') (b : Blk) : OwnB (M.set id b) id' e cs := by
  unfold OwnB; rw [List.getElem?_set_ne hne]; exact h
theorem OwnB.set_self (h : OwnB M id e cs) (e' : TypeId) (cs' : List Value) : OwnB (M.set id ⟨.own, e', cs'⟩) id e' cs' := by
  unfold OwnB; rw [List.getElem?_set_self h.lt]
theorem OwnB.ne (h : OwnB M id e cs) (h' : OwnB M id' e' cs') (he : e ≠ e') : id ≠ id' := fun hi => by
  subst hi
  unfold OwnB at h h'
  rw [h] at h'
  cases h'
  exact he rfl
theorem OwnB.rd (h : OwnB M id e cs) (k : Nat) : rdc M id k = cs[k]? := by
  unfold OwnB at h; simp [rdc, h]
theorem OwnB.here (h : id = M.length) : OwnB (M ++ [⟨.own, e, cs⟩]) id e cs := by unfold OwnB; rw [h]; simp
theorem OwnB.st (h : OwnB M id e cs) {off : Nat} {vs : List Value} (h2 : off + vs.length ≤ cs.length) (h1 : onesB vs = true) : stA M id off vs = some (M.set id ⟨.own, e, putL cs off vs⟩) := by
  unfold OwnB at h; simp [stA, h, h1, h2]
theorem OwnB.rdl (h : OwnB M id e cs) {k : Nat} (hk : k = cs.length) : rdl M id 0 k = some cs := by
  unfold OwnB at h
  subst hk
  simp [Ab.rdl, h]
theorem OwnB.at_ (h : OwnB M id e cs) (h2 : M'[id]? = M[id]?) : OwnB M' id e cs := by unfold OwnB; rw [h2]; exact h
theorem OwnR.at_ {l : List Int} (h : OwnR M id l) (h2 : M'[id]? = M[id]?) : OwnR M' id l := by unfold OwnR; rw [h2]; exact h
end
def IntsO (l : List Int) (lo hi : Nat) (M : Mem) (v : Value) : Prop :=
  l.length ≤ 1048576 ∧ ∃ id fl, v = .slice (some ⟨id, 0, none⟩) l.length fl ∧ lo ≤ id ∧ id < hi ∧ OwnR M id l
theorem IntsO.in {l : List Int} {lo hi : Nat} {M : Mem} {v : Value} (h : IntsO l lo hi M v) : IntsA M v l := by
  obtain ⟨hl, id, fl, rfl, _, _, ho⟩ := h
  exact ho.ints (by omega) fl
def PairsA (m : Mem) (v : Value) (L : List (Int × Int)) : Prop :=
  L.length ≤ 9223372036854775807 ∧ ∃ id fl, v = .slice (some ⟨id, 0, none⟩) L.length fl ∧ ∀ k, k < L.length → rdc m id (k * 2) = some (.int .i64 (L.getD k (0, 0)).1) ∧ rdc m id (k * 2 + 1) = some (.int .i64 (L.getD k (0, 0)).2)
theorem PairsA.ext {m : Mem} {v : Value} {L : List (Int × Int)} (h : PairsA m v L) (new : Mem) : PairsA (m ++ new) v L := by
  obtain ⟨hb, id, fl, rfl, hc⟩ := h
  exact ⟨hb, id, fl, rfl, fun k hk => ⟨rdc_ext (hc k hk).1, rdc_ext (hc k hk).2⟩⟩
theorem PairsA.ro {m : Mem} {v : Value} {L : List (Int × Int)} (h : PairsA m v L) : PairsA (roM m) v L := by
  obtain ⟨hb, id, fl, rfl, hc⟩ := h
  exact ⟨hb, id, fl, rfl, fun k hk => by rw [rdc_roM, rdc_roM]; exact hc k hk⟩
def PairsO (e : TypeId) (L : List (Int × Int)) (lo hi : Nat) (M : Mem) (v : Value) : Prop :=
  L.length ≤ 1048576 ∧ ∃ id fl, v = .slice (some ⟨id, 0, none⟩) L.length fl ∧ lo ≤ id ∧ id < hi ∧ OwnB M id e (pairsC L)
theorem PairsO.in {e : TypeId} {L : List (Int × Int)} {lo hi : Nat} {M : Mem} {v : Value} (h : PairsO e L lo hi M v) : PairsA M v L := by
  obtain ⟨hl, id, fl, rfl, _, _, ho⟩ := h
  exact ⟨by omega, id, fl, rfl, fun k hk => by rw [ho.rd, ho.rd]; exact pairsC_at L k hk⟩
structure TabA (m : Mem) (v : Value) (T : List (List Int)) : Prop where
  len : lenA v = some (.int .i64 T.length)
  bd : T.length ≤ 9223372036854775807
  at_ : ∀ k, k < T.length → iadA 1 v (.int .i64 (k : Int)) = some (pAt v k)
  ld : ∀ k, k < T.length → ∃ u, ldA m none (pAt v k) = some u ∧ IntsA m u (T.getD k [])
  fm : ∃ id fl, v = .slice (some ⟨id, 0, none⟩) T.length fl
theorem TabA.ext {m : Mem} {v : Value} {T : List (List Int)} (h : TabA m v T) (new : Mem) : TabA (m ++ new) v T :=
  ⟨h.len, h.bd, h.at_, fun k hk => by obtain ⟨u, h1, h2⟩ := h.ld k hk; exact ⟨u, ldA_ext h1, h2.ext new⟩, h.fm⟩
theorem TabA.ro {m : Mem} {v : Value} {T : List (List Int)} (h : TabA m v T) : TabA (roM m) v T :=
  ⟨h.len, h.bd, h.at_, fun k hk => by obtain ⟨u, h1, h2⟩ := h.ld k hk; exact ⟨u, by rw [ldA_roM]; exact h1, h2.ro⟩, h.fm⟩
theorem TabA.blk {m : Mem} {id fl : Nat} {T : List (List Int)} (hb : T.length ≤ 9223372036854775807) (h : ∀ k, k < T.length → ∃ u, rdc m id k = some u ∧ IntsA m u (T.getD k [])) : TabA m (.slice (some ⟨id, 0, none⟩) T.length fl) T := by
  refine ⟨rfl, hb, fun k hk => ?_, fun k hk => ?_, _, _, rfl⟩
  · simp only [iadA, pAt, Int.toNat_natCast, Nat.mul_one]
    rw [if_pos (by omega)]
  · obtain ⟨u, h1, h2⟩ := h k hk
    exact ⟨u, by simp only [pAt, ldA, Nat.zero_add]; exact h1, h2⟩
def tsz (T : List (List Int)) : Nat → Int
  | 0 => 0
  | k + 1 => tsz T k + ((T.getD k []).length : Int)
theorem tsz_le (T : List (List Int)) {j k : Nat} (h : j ≤ k) : tsz T j ≤ tsz T k := by
  induction k with
  | zero => rw [show j = 0 by omega]; exact Int.le_refl _
  | succ k ih =>
    by_cases e : j = k + 1
    · rw [e]; exact Int.le_refl _
    · have := ih (by omega)
      simp only [tsz]; omega
theorem tsz_row (T : List (List Int)) {j k : Nat} (h : j < k) : ((T.getD j []).length : Int) ≤ tsz T k := by
  have h1 := tsz_le T (j := j + 1) (k := k) (by omega)
  have h2 := tsz_le T (j := 0) (k := j) (by omega)
  simp only [tsz] at h1 h2; omega
def rowsC (T : List (List Int)) (R F : Nat → Nat) : List Value := (List.range T.length).map fun j => .slice (some ⟨R j, 0, none⟩) (T.getD j []).length (F j)
theorem rowsC_at {T : List (List Int)} {R F : Nat → Nat} {j : Nat} (h : j < T.length) : (rowsC T R F)[j]? = some (.slice (some ⟨R j, 0, none⟩) (T.getD j []).length (F j)) := by
  simp [rowsC, h]
def TabO (T : List (List Int)) (lo hi : Nat) (M : Mem) (v : Value) : Prop :=
  T.length ≤ 1048576 ∧ tsz T T.length ≤ 1048576 ∧ ∃ id fl R F, v = .slice (some ⟨id, 0, none⟩) T.length fl ∧ lo ≤ id ∧ id < hi ∧ OwnB M id 24 (rowsC T R F) ∧
    (∀ j, j < T.length → lo ≤ R j ∧ R j < hi ∧ OwnR M (R j) (T.getD j [])) ∧ ∀ i j, i < T.length → j < T.length → R i = R j → i = j
theorem TabO.in {T : List (List Int)} {lo hi : Nat} {M : Mem} {v : Value} (h : TabO T lo hi M v) : TabA M v T := by
  obtain ⟨hl, hs, id, fl, R, F, rfl, _, _, ho, hr, _⟩ := h
  exact TabA.blk (by omega) fun k hk => ⟨_, by rw [ho.rd]; exact rowsC_at hk, (hr k hk).2.2.ints (by have := tsz_row T hk; omega) _⟩
end Go.Proofs.Ytpedjcagaeedjaa.Ab
end
section
namespace Go.Proofs.Ytpedjcagaeedjaa.Ab
open Go Go.RowKit
set_option linter.unusedVariables false
set_option linter.unusedSimpArgs false
def Adds (W : World) (ρ ρ' : Places) (m m' : Mem) : Prop := ρ <+: ρ' ∧ MRel W W.heap.size ρ' m' W ∧ ∃ new, m' = m ++ new
theorem Adds.trans {W : World} {ρ1 ρ2 ρ3 : Places} {m1 m2 m3 : Mem} (h : Adds W ρ1 ρ2 m1 m2) (h' : Adds W ρ2 ρ3 m2 m3) : Adds W ρ1 ρ3 m1 m3 := by
  obtain ⟨a, b, n1, rfl⟩ := h
  obtain ⟨c, d, n2, rfl⟩ := h'
  exact ⟨a.trans c, d, n1 ++ n2, by rw [List.append_assoc]⟩
theorem Adds.refl {W : World} {ρ : Places} {m : Mem} (h : MRel W W.heap.size ρ m W) : Adds W ρ ρ m m := ⟨List.prefix_refl _, h, [], by simp⟩
end Go.Proofs.Ytpedjcagaeedjaa.Ab
end
section
namespace Go.Proofs.Ytpedjcagaeedjaa
set_option linter.unusedVariables false
theorem sumTo_sD {l : List Int} {k : Nat} (h : k < l.length) : sumTo l (k + 1) = sumTo l k + l.getD k 0 := by
  rw [sumTo_succ (List.getElem?_eq_getElem h), List.getD_eq_getElem?_getD, List.getElem?_eq_getElem h]; rfl

structure Dist (w : List Int) : Prop where
  l16 : w.length ≤ 16
  wt : ∀ x ∈ w, 0 ≤ x ∧ x ≤ 1000
  pos : 0 < sumTo w w.length
theorem Dist.at_ {w : List Int} (h : Dist w) (k : Nat) : 0 ≤ w.getD k 0 ∧ w.getD k 0 ≤ 1000 := by
  by_cases hk : k < w.length
  · rw [List.getD_eq_getElem?_getD, List.getElem?_eq_getElem hk]; exact h.wt _ (List.getElem_mem hk)
  · rw [List.getD_eq_getElem?_getD, List.getElem?_eq_none (by omega)]; exact ⟨by decide, by decide⟩
theorem Dist.len {w : List Int} (h : Dist w) : 1 ≤ w.length := by
  have := h.pos
  rcases Nat.eq_zero_or_pos w.length with e | e
  · rw [e, sumTo_zero] at this; omega
  · exact e
theorem Dist.sum {w : List Int} (h : Dist w) (k : Nat) : 0 ≤ sumTo w k ∧ sumTo w k ≤ 1000 * k := sumTo_bound (by decide) h.wt k
def wsum (w : List Int) (f : Nat → Int) : Nat → Int
  | 0 => 0
  | k + 1 => wsum w f k + w.getD k 0 * f k
def tot (w : List Int) : Int := sumTo w w.length
def upF (w : List Int) (q : Nat) : Int := sumTo w (min (q + 1) w.length)
theorem mul_in {a x A B : Int} (h1 : 0 ≤ a ∧ a ≤ A) (h2 : 0 ≤ x ∧ x ≤ B) : 0 ≤ a * x ∧ a * x ≤ A * B := by
  refine ⟨Int.mul_nonneg h1.1 h2.1, ?_⟩
  exact Int.mul_le_mul h1.2 h2.2 h2.1 (by omega)
end Go.Proofs.Ytpedjcagaeedjaa
end
section
namespace Go.Proofs.Ytpedjcagaeedjaa
set_option linter.unusedVariables false
structure Mk where
  w : List Int
  price : Int
  make : Int
  left : Int
structure Ct where
  pay : Int
  back : Int
  share : Int
def inM (b x : Int) : Bool := decide (0 ≤ x) && decide (x ≤ b)
theorem inM_iff {b x : Int} : inM b x = true ↔ 0 ≤ x ∧ x ≤ b := by simp [inM]
def w9B (w : List Int) : Bool := decide (w.length ≤ 9) && rowB w w.length 4 && decide (0 < sumTo w w.length)
def Mk.good (k : Mk) : Bool := w9B k.w && (decide (1 ≤ k.price) && decide (k.price ≤ 99)) && inM k.price k.make && inM k.make k.left
def Ct.good (c : Ct) : Bool := inM 99 c.pay && inM 99 c.back && inM 100 c.share
structure GoodM (k : Mk) : Prop where
  l9 : k.w.length ≤ 9
  wt : ∀ x ∈ k.w, 0 ≤ x ∧ x ≤ 4
  pos : 0 < sumTo k.w k.w.length
  price : 1 ≤ k.price ∧ k.price ≤ 99
  make : 0 ≤ k.make ∧ k.make ≤ k.price
  left : 0 ≤ k.left ∧ k.left ≤ k.make
structure GoodC (c : Ct) : Prop where
  pay : 0 ≤ c.pay ∧ c.pay ≤ 99
  back : 0 ≤ c.back ∧ c.back ≤ 99
  share : 0 ≤ c.share ∧ c.share ≤ 100
theorem goodM_iff {k : Mk} : k.good = true ↔ GoodM k := by
  simp only [Mk.good, w9B, Bool.and_eq_true, decide_eq_true_eq, rowB_iff, inM_iff]
  constructor
  · rintro ⟨⟨⟨⟨⟨h1, h2, _⟩, h3⟩, h4, h5⟩, h6⟩, h7⟩
    exact ⟨h1, h2, h3, ⟨h4, h5⟩, h6, h7⟩
  · rintro ⟨h1, h2, h3, h4, h6, h7⟩
    exact ⟨⟨⟨⟨⟨h1, h2, by trivial⟩, h3⟩, h4⟩, h6⟩, h7⟩
theorem goodC_iff {c : Ct} : c.good = true ↔ GoodC c := by
  simp only [Ct.good, Bool.and_eq_true, inM_iff]
  exact ⟨fun h => ⟨h.1.1, h.1.2, h.2⟩, fun h => ⟨⟨h.pay, h.back⟩, h.share⟩⟩
theorem GoodM.dist {k : Mk} (h : GoodM k) : Dist k.w := ⟨by have := h.l9; omega, fun x hx => by have := h.wt x hx; omega, h.pos⟩
theorem GoodM.tot {k : Mk} (h : GoodM k) : 1 ≤ tot k.w ∧ tot k.w ≤ 36 := by
  have h1 := sumTo_bound (by decide) h.wt k.w.length
  have := h.l9
  have := h.pos
  unfold Go.Proofs.Ytpedjcagaeedjaa.tot
  omega
def salF (w : List Int) (q : Nat) (k : Nat) : Int := wsum w (fun d => min (q : Int) d) k
def sal (w : List Int) (q : Nat) : Int := salF w q w.length
theorem sal_s (w : List Int) (q k : Nat) : salF w q (k + 1) = salF w q k + w.getD k 0 * min (q : Int) k := rfl
theorem at4 {k : Mk} (h : GoodM k) (j : Nat) : 0 ≤ k.w.getD j 0 ∧ k.w.getD j 0 ≤ 4 := getD_bound (by decide) h.wt j
theorem salF_in {k : Mk} (h : GoodM k) (q : Nat) : ∀ j, j ≤ k.w.length → 0 ≤ salF k.w q j ∧ salF k.w q j ≤ sumTo k.w j * q := by
  intro j
  induction j with
  | zero => intro _; simp [salF, wsum, sumTo]
  | succ j ih =>
    intro hj
    have := ih (by omega)
    have h1 := at4 h j
    rw [sal_s, sumTo_sD (by omega), Int.add_mul]
    have h2 : 0 ≤ k.w.getD j 0 * min (q : Int) j := Int.mul_nonneg h1.1 (by omega)
    have h3 : k.w.getD j 0 * min (q : Int) j ≤ k.w.getD j 0 * q := Int.mul_le_mul_of_nonneg_left (by omega) h1.1
    omega
theorem term_sal {k : Mk} (h : GoodM k) (q : Nat) (hq : q ≤ 8) (j : Nat) : 0 ≤ k.w.getD j 0 * min (q : Int) j ∧ k.w.getD j 0 * min (q : Int) j ≤ 32 := by
  have h1 := at4 h j
  exact mul_bound (m := 4) (n := 8) h1.1 h1.2 (by omega) (by omega)
theorem sal_in {k : Mk} (h : GoodM k) {q : Nat} (hq : q ≤ 8) : 0 ≤ sal k.w q ∧ sal k.w q ≤ tot k.w * q ∧ tot k.w * q ≤ 288 := by
  have h1 := salF_in h q k.w.length (Nat.le_refl _)
  have h2 := h.tot
  have h3 : tot k.w * (q : Int) ≤ 36 * 8 := (mul_bound (m := 36) (n := 8) (by omega) h2.2 (by omega) (by omega)).2
  exact ⟨h1.1, h1.2, by omega⟩
theorem salF_bd {k : Mk} (h : GoodM k) {q : Nat} (hq : q ≤ 8) {j : Nat} (hj : j ≤ k.w.length) : 0 ≤ salF k.w q j ∧ salF k.w q j ≤ 288 := by
  have h1 := salF_in h q j hj
  have h2 := sumTo_mono (l := k.w) (fun x hx => (h.wt x hx).1) hj
  have h3 := h.tot
  have h4 : sumTo k.w j * (q : Int) ≤ tot k.w * q := Int.mul_le_mul_of_nonneg_right h2 (by omega)
  have := (sal_in h hq).2.2
  omega
theorem sal_zero (w : List Int) : sal w 0 = 0 := by
  unfold sal
  generalize w.length = k
  induction k with
  | zero => rfl
  | succ k ih => rw [sal_s, ih]; have : min ((0 : Nat) : Int) k = 0 := by omega
                 rw [this]; simp
def salP : List Int → Nat → Int
  | _ :: y :: l, q + 1 => (y :: l).sum + salP (y :: l) q
  | _, _ => 0
theorem salP_zero (l : List Int) : salP l 0 = 0 := by unfold salP; split <;> simp_all
theorem salP_one (x : Int) (q : Nat) : salP [x] q = 0 := by unfold salP; rfl
theorem salP_nil (q : Nat) : salP [] q = 0 := by unfold salP; rfl
theorem salP_next (x y : Int) (l : List Int) (q : Nat) : salP (x :: y :: l) (q + 1) = (y :: l).sum + salP (y :: l) q := rfl
theorem salF_cons (x : Int) (l : List Int) (q : Nat) : ∀ k, salF (x :: l) (q + 1) (k + 1) = sumTo l k + salF l q k ∨ l.length < k := by
  intro k
  induction k with
  | zero => left; rw [sal_s]; have : min ((q + 1 : Nat) : Int) ((0 : Nat) : Int) = 0 := by omega
            rw [this]; simp [salF, wsum, sumTo]
  | succ k ih =>
    rcases ih with ih | ih
    · by_cases hk : k < l.length
      · left
        rw [sal_s, ih, sumTo_sD hk, sal_s, List.getD_cons_succ]
        have : min ((q + 1 : Nat) : Int) ((k + 1 : Nat) : Int) = min (q : Int) k + 1 := by omega
        rw [this, Int.mul_add]; omega
      · right; omega
    · right; omega
theorem sal_P : ∀ (l : List Int) (q : Nat), salP l q = sal l q
  | l, 0 => by rw [salP_zero, sal_zero]
  | [], q + 1 => by rw [salP_nil]; rfl
  | [x], q + 1 => by
    rw [salP_one]
    have := (salF_cons x [] q 0).resolve_right (by simp)
    simp only [sal, List.length_cons, List.length_nil, Nat.zero_add] at this ⊢
    rw [this]; simp [sumTo, salF, wsum]
  | x :: y :: l, q + 1 => by
    rw [salP_next, sal_P (y :: l) q]
    have := (salF_cons x (y :: l) q (y :: l).length).resolve_right (by omega)
    simp only [sal, List.length_cons] at this ⊢
    rw [this, sumTo_all (by simp)]
def selP (k : Mk) (c : Ct) (q : Nat) : Int := c.share * k.price * sal k.w q + 100 * ((k.left + c.back) * (tot k.w * q - sal k.w q) - c.pay * (tot k.w * q))
def makP (k : Mk) (c : Ct) (q : Nat) : Int := (100 - c.share) * k.price * sal k.w q + 100 * ((c.pay - k.make) * (tot k.w * q) - c.back * (tot k.w * q - sal k.w q))
def joiP (k : Mk) (q : Nat) : Int := 100 * (k.price * sal k.w q + k.left * (tot k.w * q - sal k.w q) - k.make * (tot k.w * q))
theorem both_P (k : Mk) (c : Ct) (q : Nat) : selP k c q + makP k c q = joiP k q := by
  unfold selP makP joiP
  generalize sal k.w q = S
  generalize tot k.w * (q : Int) = A
  grind
theorem mulI {a x A B : Int} (h1 : 0 ≤ a ∧ a ≤ A) (h2 : 0 ≤ x ∧ x ≤ B) : 0 ≤ a * x ∧ a * x ≤ A * B := mul_in h1 h2
structure ProB (k : Mk) (c : Ct) (S A : Int) : Prop where
  s : 0 ≤ S ∧ S ≤ 288
  u : 0 ≤ A - S ∧ A - S ≤ 288
  a : 0 ≤ A ∧ A ≤ 288
  p1 : 0 ≤ c.share * k.price ∧ c.share * k.price ≤ 9900
  p2 : 0 ≤ c.share * k.price * S ∧ c.share * k.price * S ≤ 2851200
  p3 : 0 ≤ (k.left + c.back) * (A - S) ∧ (k.left + c.back) * (A - S) ≤ 57024
  p4 : 0 ≤ c.pay * A ∧ c.pay * A ≤ 28512
  p5 : 0 ≤ (100 - c.share) * k.price ∧ (100 - c.share) * k.price ≤ 9900
  p6 : 0 ≤ (100 - c.share) * k.price * S ∧ (100 - c.share) * k.price * S ≤ 2851200
  p7 : -28512 ≤ (c.pay - k.make) * A ∧ (c.pay - k.make) * A ≤ 28512
  p8 : 0 ≤ c.back * (A - S) ∧ c.back * (A - S) ≤ 28512
  p9 : 0 ≤ k.price * S ∧ k.price * S ≤ 28512
  pa : 0 ≤ k.left * (A - S) ∧ k.left * (A - S) ≤ 28512
  pb : 0 ≤ k.make * A ∧ k.make * A ≤ 28512
  l : 0 ≤ k.left ∧ k.left ≤ 99
  b : 0 ≤ c.back ∧ c.back ≤ 99
  m : 0 ≤ k.make ∧ k.make ≤ 99
  pr : 0 ≤ k.price ∧ k.price ≤ 99
  sh : 0 ≤ c.share ∧ c.share ≤ 100
  py : 0 ≤ c.pay ∧ c.pay ≤ 99
theorem pro_bd {k : Mk} {c : Ct} (h : GoodM k) (hc : GoodC c) {q : Nat} (hq : q ≤ 8) : ProB k c (sal k.w q) (tot k.w * q) := by
  have h1 := sal_in h hq
  have h2 := h.price
  have h3 := h.make
  have h4 := h.left
  have h5 := hc.pay
  have h6 := hc.back
  have h7 := hc.share
  generalize sal k.w q = S at *
  generalize tot k.w * (q : Int) = A at *
  have p1 := mulI (a := c.share) (x := k.price) (A := 100) (B := 99) h7 (by omega)
  have p5 := mulI (a := 100 - c.share) (x := k.price) (A := 100) (B := 99) (by omega) (by omega)
  have py := mulI (a := c.pay) (x := A) (A := 99) (B := 288) h5 (by omega)
  have pm := mulI (a := k.make) (x := A) (A := 99) (B := 288) (by omega) (by omega)
  exact ⟨by omega, by omega, by omega, p1, mulI (A := 9900) (B := 288) p1 (by omega), mulI (A := 198) (B := 288) (by omega) (by omega), py, p5, mulI (A := 9900) (B := 288) p5 (by omega),
    by rw [Int.sub_mul]; omega, mulI (A := 99) (B := 288) h6 (by omega), mulI (A := 99) (B := 288) (by omega) (by omega), mulI (A := 99) (B := 288) (by omega) (by omega), pm, by omega, h6, by omega, by omega, h7, h5⟩
theorem joi_bd {k : Mk} (h : GoodM k) {q : Nat} (hq : q ≤ 8) : -5702400 ≤ joiP k q ∧ joiP k q ≤ 5702400 := by
  have := pro_bd (c := ⟨0, 0, 0⟩) h ⟨by simp, by simp, by simp⟩ hq
  have := this.p9
  have := ‹ProB k _ _ _›.pa
  have := ‹ProB k _ _ _›.pb
  unfold joiP
  omega
theorem sel_bd {k : Mk} {c : Ct} (h : GoodM k) (hc : GoodC c) {q : Nat} (hq : q ≤ 8) : -8553600 ≤ selP k c q ∧ selP k c q ≤ 8553600 := by
  have h0 := pro_bd h hc hq
  have := h0.p2
  have := h0.p3
  have := h0.p4
  unfold selP
  omega
theorem mak_bd {k : Mk} {c : Ct} (h : GoodM k) (hc : GoodC c) {q : Nat} (hq : q ≤ 8) : -8553600 ≤ makP k c q ∧ makP k c q ≤ 8553600 := by
  have h0 := pro_bd h hc hq
  have := h0.p6
  have := h0.p7
  have := h0.p8
  unfold makP
  omega
def argG (f : Nat → Int) : Nat → Nat
  | 0 => 0
  | n + 1 => if f (argG f n) < f (n + 1) then n + 1 else argG f n
theorem argG_le (f : Nat → Int) (n : Nat) : argG f n ≤ n := by
  induction n with
  | zero => exact Nat.le_refl _
  | succ n ih => simp only [argG]; split <;> omega
theorem argG_max (f : Nat → Int) (n : Nat) : ∀ j, j ≤ n → f j ≤ f (argG f n) := by
  induction n with
  | zero => intro j hj; obtain rfl : j = 0 := by omega
            exact Int.le_refl _
  | succ n ih =>
    intro j hj
    simp only [argG]
    by_cases h : f (argG f n) < f (n + 1)
    · rw [if_pos h]
      by_cases e : j = n + 1
      · rw [e]; exact Int.le_refl _
      · have := ih j (by omega); omega
    · rw [if_neg h]
      by_cases e : j = n + 1
      · rw [e]; omega
      · exact ih j (by omega)
theorem argG_first (f : Nat → Int) (n : Nat) : ∀ j, j < argG f n → f j < f (argG f n) := by
  induction n with
  | zero => intro j hj; simp [argG] at hj
  | succ n ih =>
    intro j hj
    simp only [argG] at hj ⊢
    by_cases h : f (argG f n) < f (n + 1)
    · rw [if_pos h] at hj ⊢
      have := argG_max f n j (by omega)
      omega
    · rw [if_neg h] at hj ⊢
      exact ih j hj
theorem argG_uniq (f : Nat → Int) (n a : Nat) (h : a ≤ n) (h1 : ∀ j, j ≤ n → f j ≤ f a) (h2 : ∀ j, j < a → f j < f a) : argG f n = a := by
  have e1 := argG_le f n
  have e2 := argG_max f n a h
  have e3 := h1 _ e1
  rcases Nat.lt_trichotomy (argG f n) a with e | e | e
  · have := h2 _ e; omega
  · exact e
  · have := argG_first f n _ e; omega
theorem argG_congr {f g : Nat → Int} {n : Nat} (h : ∀ j, j ≤ n → f j = g j) : argG f n = argG g n := by
  induction n with
  | zero => rfl
  | succ n ih =>
    have := argG_le g n
    simp only [argG, ih (fun j hj => h j (by omega)), h (n + 1) (by omega), h (argG g n) (by omega)]
def joiO (k : Mk) : Nat := argG (joiP k) 8
def selO (k : Mk) (c : Ct) : Nat := argG (selP k c) 8
def lossP (k : Mk) (c : Ct) : Int := joiP k (joiO k) - joiP k (selO k c)
theorem joiO_le (k : Mk) : joiO k ≤ 8 := argG_le _ _
theorem selO_le (k : Mk) (c : Ct) : selO k c ≤ 8 := argG_le _ _
theorem loss_bd {k : Mk} (c : Ct) (h : GoodM k) : 0 ≤ lossP k c ∧ lossP k c ≤ 11404800 := by
  have h1 := argG_max (joiP k) 8 (selO k c) (selO_le k c)
  have h2 := joi_bd h (joiO_le k)
  have h3 := joi_bd h (selO_le k c)
  unfold lossP joiO at *
  omega
def partP (k : Mk) (c : Ct) : Int := c.share * k.price - 100 * (k.left + c.back)
def propB (k : Mk) (c : Ct) : Bool := decide (0 < partP k c) && decide (partP k c * (k.left - k.make) = 100 * (k.left + c.back - c.pay) * (k.price - k.left))
theorem part_bd {k : Mk} {c : Ct} (h : GoodM k) (hc : GoodC c) : (0 ≤ c.share * k.price ∧ c.share * k.price ≤ 9900) ∧ (-19800 ≤ partP k c ∧ partP k c ≤ 9900) ∧ (-1960200 ≤ partP k c * (k.left - k.make) ∧ partP k c * (k.left - k.make) ≤ 1960200) ∧
    (-9900 ≤ 100 * (k.left + c.back - c.pay) ∧ 100 * (k.left + c.back - c.pay) ≤ 19800) ∧ (-1960200 ≤ 100 * (k.left + c.back - c.pay) * (k.price - k.left) ∧ 100 * (k.left + c.back - c.pay) * (k.price - k.left) ≤ 1960200) := by
  have h2 := h.price
  have h3 := h.make
  have h4 := h.left
  have h5 := hc.pay
  have h6 := hc.back
  have h7 := hc.share
  have p1 := mulI (a := c.share) (x := k.price) (A := 100) (B := 99) h7 (by omega)
  have p2 : -19800 ≤ partP k c ∧ partP k c ≤ 9900 := by unfold partP; omega
  have p3 := mulI (a := partP k c + 19800) (x := k.make - k.left) (A := 29700) (B := 99) (by omega) (by omega)
  have p4 := mulI (a := 9900 - partP k c) (x := k.make - k.left) (A := 29700) (B := 99) (by omega) (by omega)
  have p5 : -9900 ≤ 100 * (k.left + c.back - c.pay) ∧ 100 * (k.left + c.back - c.pay) ≤ 19800 := by omega
  have p6 := mulI (a := 100 * (k.left + c.back - c.pay) + 9900) (x := k.price - k.left) (A := 29700) (B := 99) (by omega) (by omega)
  have p7 := mulI (a := 19800 - 100 * (k.left + c.back - c.pay)) (x := k.price - k.left) (A := 29700) (B := 99) (by omega) (by omega)
  refine ⟨p1, p2, ?_, p5, ?_⟩
  · rw [show partP k c * (k.left - k.make) = -(partP k c * (k.make - k.left)) by rw [← Int.mul_neg]; congr 1; omega]
    rw [Int.add_mul] at p3
    rw [Int.sub_mul] at p4
    omega
  · rw [Int.add_mul] at p6
    rw [Int.sub_mul] at p7
    omega
theorem prop_price {k : Mk} {c : Ct} (h : GoodM k) (hc : GoodC c) (hp : propB k c = true) : k.left < k.price := by
  simp only [propB, Bool.and_eq_true, decide_eq_true_eq] at hp
  have h3 := h.make
  have h4 := h.left
  rcases Int.lt_or_le k.left k.price with e | e
  · exact e
  · have e1 : k.price = k.left := by omega
    have := hp.1
    unfold partP at this
    rw [e1] at this
    have h5 : c.share * k.left ≤ 100 * k.left := Int.mul_le_mul_of_nonneg_right hc.share.2 h4.1
    have := hc.back
    omega
theorem prop_uniq {k : Mk} {b s p q : Int} (hk : k.left < k.price) (h1 : propB k ⟨p, b, s⟩ = true) (h2 : propB k ⟨q, b, s⟩ = true) : p = q := by
  simp only [propB, Bool.and_eq_true, decide_eq_true_eq] at h1 h2
  have e : 100 * (k.left + b - p) * (k.price - k.left) = 100 * (k.left + b - q) * (k.price - k.left) := by
    rw [← h1.2, ← h2.2]; rfl
  have := Int.eq_of_mul_eq_mul_right (by omega) e
  omega
def payN (k : Mk) (b s : Int) : Nat → Option Nat
  | 0 => none
  | n + 1 => match payN k b s n with
    | some p => some p
    | none => if propB k ⟨n, b, s⟩ then some n else none
theorem payN_some {k : Mk} {b s : Int} {n p : Nat} (h : payN k b s n = some p) : p < n ∧ propB k ⟨p, b, s⟩ = true := by
  induction n with
  | zero => cases h
  | succ n ih =>
    simp only [payN] at h
    cases e : payN k b s n with
    | some q => rw [e] at h; cases h; have := ih e; exact ⟨by omega, this.2⟩
    | none =>
      rw [e] at h
      by_cases hb : propB k ⟨n, b, s⟩
      · simp only [hb, if_true] at h; cases h; exact ⟨by omega, hb⟩
      · simp only [hb] at h; cases h
theorem payN_stay {k : Mk} {b s : Int} {n p : Nat} (h : payN k b s n = some p) : ∀ i, payN k b s (n + i) = some p := by
  intro i
  induction i with
  | zero => exact h
  | succ i ih => rw [← Nat.add_assoc]; simp only [payN, ih]
theorem payN_hit {k : Mk} {b s : Int} {n : Nat} (h : payN k b s n = none) (hb : propB k ⟨n, b, s⟩ = true) (i : Nat) : payN k b s (n + 1 + i) = some n := payN_stay (by simp only [payN, h, hb, if_true]) i
def paysL (k : Mk) (b s : Int) : Nat → List Ct
  | 0 => []
  | n + 1 => paysL k b s n ++ (if propB k ⟨n, b, s⟩ then [⟨n, b, s⟩] else [])
theorem paysL_is {k : Mk} {b s : Int} (hk : k.left < k.price ∨ ∀ p : Nat, propB k ⟨p, b, s⟩ = false) (n : Nat) : paysL k b s n = match payN k b s n with
    | some p => [⟨p, b, s⟩]
    | none => [] := by
  induction n with
  | zero => rfl
  | succ n ih =>
    simp only [paysL, payN]
    rw [ih]
    cases e : payN k b s n with
    | some p =>
      simp only
      have h1 := payN_some e
      have : propB k ⟨n, b, s⟩ = false := by
        cases hb : propB k ⟨n, b, s⟩ with
        | false => rfl
        | true =>
          rcases hk with hk | hk
          · have := prop_uniq hk h1.2 hb; omega
          · rw [hk n] at hb; cases hb
      rw [this]; rfl
    | none =>
      simp only [List.nil_append]
      by_cases hb : propB k ⟨n, b, s⟩ <;> simp [hb]
def backsL (k : Mk) : Nat → List Ct
  | 0 => []
  | n + 1 => backsL k n ++ paysL k n 100 100
theorem paysL_len {k : Mk} {b s : Int} (hk : k.left < k.price ∨ ∀ p : Nat, propB k ⟨p, b, s⟩ = false) (n : Nat) : (paysL k b s n).length ≤ 1 := by
  rw [paysL_is hk]
  split <;> simp
theorem no_prop' {k : Mk} (h : GoodM k) {b s : Int} (hb : 0 ≤ b ∧ b ≤ 99) (hs : 0 ≤ s ∧ s ≤ 100) : k.left < k.price ∨ ∀ p : Nat, propB k ⟨p, b, s⟩ = false := by
  rcases Int.lt_or_le k.left k.price with e | e
  · exact .inl e
  · refine .inr fun p => ?_
    have h3 := h.make
    have h4 := h.left
    have e1 : k.price = k.left := by omega
    have h5 : s * k.left ≤ 100 * k.left := Int.mul_le_mul_of_nonneg_right hs.2 h4.1
    have : ¬ (0 < partP k ⟨p, b, s⟩) := by
      simp only [partP]
      rw [e1]
      omega
    simp [propB, this]
theorem backsL_len {k : Mk} (h : GoodM k) (n : Nat) (hn : n ≤ 100) : (backsL k n).length ≤ n := by
  induction n with
  | zero => simp [backsL]
  | succ n ih =>
    have := ih (by omega)
    have := paysL_len (no_prop' h (b := (n : Int)) (s := 100) (by omega) (by omega)) 100
    simp only [backsL, List.length_append]
    omega
end Go.Proofs.Ytpedjcagaeedjaa
end
section
namespace Go.Proofs.Ytpedjcagaeedjaa.Ab
open Go Go.RowKit
set_option linter.unusedVariables false
set_option linter.unusedSimpArgs false
abbrev mkV (s : Mk) (a : Value) : Value := .agg #[a, .int .i64 s.price, .int .i64 s.make, .int .i64 s.left]
abbrev ctV (c : Ct) : Value := .agg #[.int .i64 c.pay, .int .i64 c.back, .int .i64 c.share]
def MkA (m : Mem) (v : Value) (s : Mk) : Prop := ∃ a, v = mkV s a ∧ IntsA m a s.w
theorem MkA.mk {m : Mem} {a : Value} {s : Mk} (h1 : IntsA m a s.w) : MkA m (mkV s a) s := ⟨a, rfl, h1⟩
theorem MkA.ext {m : Mem} {v : Value} {s : Mk} (h : MkA m v s) (new : Mem) : MkA (m ++ new) v s := by
  obtain ⟨a, rfl, h1⟩ := h
  exact ⟨a, rfl, h1.ext new⟩
theorem MkA.ro {m : Mem} {v : Value} {s : Mk} (h : MkA m v s) : MkA (roM m) v s := by
  obtain ⟨a, rfl, h1⟩ := h
  exact ⟨a, rfl, h1.ro⟩
def MkO (s : Mk) (lo hi : Nat) (M : Mem) (v : Value) : Prop := ∃ a, v = mkV s a ∧ IntsO s.w lo hi M a
theorem MkO.in {s : Mk} {lo hi : Nat} {M : Mem} {v : Value} (h : MkO s lo hi M v) : MkA M v s := by
  obtain ⟨a, rfl, h1⟩ := h
  exact ⟨a, rfl, h1.in⟩
def Ct0 : Ct := ⟨0, 0, 0⟩
def ctC (x : Ct) : List Value := [.int .i64 x.pay, .int .i64 x.back, .int .i64 x.share]
def ctsC (L : List Ct) : List Value := (L.map ctC).flatten
theorem ctsC_len (L : List Ct) : (ctsC L).length = L.length * 3 := by
  induction L with
  | nil => rfl
  | cons p L ih => simp only [ctsC, List.map_cons, List.flatten_cons, List.length_append, List.length_cons] at ih ⊢; rw [ih]; simp [ctC]; omega
theorem ctsC_app (L K : List Ct) : ctsC (L ++ K) = ctsC L ++ ctsC K := by simp [ctsC]
theorem ctsC_at : ∀ (L : List Ct) (k i : Nat), k < L.length → i < 3 → (ctsC L)[k * 3 + i]? = (ctC (L.getD k Ct0))[i]?
  | p :: L, 0, i, _, hi => by
    simp only [ctsC, List.map_cons, List.flatten_cons, Nat.zero_mul, Nat.zero_add, List.getD_cons_zero]
    rw [List.getElem?_append_left (by simp [ctC]; omega)]
  | p :: L, k + 1, i, h, hi => by
    have ih := ctsC_at L k i (by simpa using h) hi
    simp only [ctsC, List.map_cons, List.flatten_cons, List.getD_cons_succ] at ih ⊢
    rw [List.getElem?_append_right (by simp [ctC]; omega), ← ih]
    congr 1
    simp [ctC]; omega
  | [], k, i, h, _ => absurd h (by simp)
def CtsA (m : Mem) (v : Value) (L : List Ct) : Prop :=
  L.length ≤ 9223372036854775807 ∧ ∃ id fl, v = .slice (some ⟨id, 0, none⟩) L.length fl ∧ ∀ k i, k < L.length → i < 3 → rdc m id (k * 3 + i) = (ctC (L.getD k Ct0))[i]?
theorem ctC_some (x : Ct) {i : Nat} (h : i < 3) : ∃ v, (ctC x)[i]? = some v := ⟨_, List.getElem?_eq_getElem (by simp [ctC]; omega)⟩
theorem CtsA.ext {m : Mem} {v : Value} {L : List Ct} (h : CtsA m v L) (new : Mem) : CtsA (m ++ new) v L := by
  obtain ⟨hb, id, fl, rfl, hc⟩ := h
  refine ⟨hb, id, fl, rfl, fun k i hk hi => ?_⟩
  obtain ⟨u, hu⟩ := ctC_some (L.getD k Ct0) hi
  have := hc k i hk hi
  rw [hu] at this ⊢
  exact rdc_ext this
theorem CtsA.ro {m : Mem} {v : Value} {L : List Ct} (h : CtsA m v L) : CtsA (roM m) v L := by
  obtain ⟨hb, id, fl, rfl, hc⟩ := h
  exact ⟨hb, id, fl, rfl, fun k i hk hi => by rw [rdc_roM]; exact hc k i hk hi⟩
theorem CtsA.len {m : Mem} {v : Value} {L : List Ct} (h : CtsA m v L) : lenA v = some (.int .i64 L.length) := by
  obtain ⟨hb, id, fl, rfl, hc⟩ := h; rfl
def pCt (v : Value) (k : Nat) : Value := match v with
  | .slice (some ⟨id, _, _⟩) _ _ => .pointer (some ⟨id, k * 3, none⟩)
  | _ => undef
theorem CtsA.at_ {m : Mem} {v : Value} {L : List Ct} (h : CtsA m v L) {k : Nat} (hk : k < L.length) : iadA 3 v (.int .i64 (k : Int)) = some (pCt v k) := by
  obtain ⟨hb, id, fl, rfl, hc⟩ := h
  simp only [pCt]
  rw [iadA_in hk]
  simp
theorem CtsA.ld {m : Mem} {v : Value} {L : List Ct} (h : CtsA m v L) {k : Nat} (hk : k < L.length) : ldA m (some 3) (pCt v k) = some (ctV (L.getD k Ct0)) := by
  obtain ⟨hb, id, fl, rfl, hc⟩ := h
  have r0 := hc k 0 hk (by decide)
  have r1 := hc k 1 hk (by decide)
  have r2 := hc k 2 hk (by decide)
  simp only [ctC, List.getElem?_cons_zero, List.getElem?_cons_succ, Nat.add_zero] at r0 r1 r2
  simp only [pCt, ldA, rdn, r0, r1, r2, ctV]
def CtsO (e : TypeId) (L : List Ct) (lo hi : Nat) (M : Mem) (v : Value) : Prop :=
  L.length ≤ 1048576 ∧ ∃ id fl, v = .slice (some ⟨id, 0, none⟩) L.length fl ∧ lo ≤ id ∧ id < hi ∧ OwnB M id e (ctsC L)
theorem CtsO.in {e : TypeId} {L : List Ct} {lo hi : Nat} {M : Mem} {v : Value} (h : CtsO e L lo hi M v) : CtsA M v L := by
  obtain ⟨hl, id, fl, rfl, _, _, ho⟩ := h
  exact ⟨by omega, id, fl, rfl, fun k i hk hi => by rw [ho.rd]; exact ctsC_at L k i hk hi⟩
end Go.Proofs.Ytpedjcagaeedjaa.Ab
end
section
namespace Go.Proofs.Ytpedjcagaeedjaa.Ab
open Go Go.RowKit
set_option linter.unusedVariables false
theorem IntsA.one {m : Mem} {v : Value} {l : List Int} (h : IntsA m v l) (xs : List Value) : onesB (v :: xs) = onesB xs := by
  rcases h.form with ⟨rfl, _⟩ | ⟨id, off, fl, rfl⟩ <;> exact onesB_sl _ _ _ _
end Go.Proofs.Ytpedjcagaeedjaa.Ab
end
section
namespace Go.Proofs.Ytpedjcagaeedjaa.Ab
open Go Go.RowKit
set_option linter.unusedVariables false
theorem MkA.one {m : Mem} {s : Mk} {u : Value} (h : MkA m (mkV s u) s) (xs : List Value) : onesB (u :: xs) = onesB xs := by
  obtain ⟨u', e, hu⟩ := h
  have e' : u = u' := by simpa [mkV] using e
  rw [e']; exact hu.one xs
end Go.Proofs.Ytpedjcagaeedjaa.Ab
end
section
namespace Go.Proofs.Ytpedjcagaeedjaa.Ab
open Go Go.RowKit
set_option linter.unusedVariables false
set_option linter.unusedSimpArgs false
theorem row_small {w : List Int} {n : Nat} {most : Int} (hl : w.length ≤ n) (hn : n ≤ 1000) (hm : 0 ≤ most ∧ most ≤ 1000) (hw : Go.Proofs.Ytpedjcagaeedjaa.rowB w w.length most = true) (k : Nat) (hk : k ≤ w.length) : -4611686018427387904 ≤ sumTo w k ∧ sumTo w k ≤ 4611686018427387904 := by
  have h1 := sumTo_bound hm.1 (rowB_iff.1 hw).1 k
  have h2 : most * (k : Int) ≤ 1000 * 1000 := Int.mul_le_mul hm.2 (by omega) (by omega) (by decide)
  omega
theorem areW_rc (m : Mem) (v : Value) (w : List Int) (n : Nat) (most : Int) (h : IntsA m v w) (hn : n ≤ 1000) (hm : 0 ≤ most ∧ most ≤ 1000) :
    RC Try.prog 60 [v, .int .i64 n, .int .i64 most] m (AnsV (.bool (decide (w.length ≤ n) && Go.Proofs.Ytpedjcagaeedjaa.rowB w w.length most && decide (0 < sumTo w w.length)))) := by
  refine rc_of_run mixed ok_impl_areWeights (by simp) (go_start _ _ _ ?_)
  have hr := h.ro
  by_cases hl : w.length ≤ n
  · have hl' : (w.length : Int) ≤ n := by omega
    simp (config := {implicitDefEqProofs := false, maxDischargeDepth := 20}) (disch := first | omega | (simp only [lenE]; done) | (simp only [lenE]; omega) | rfl | (simp only [lenE, markR_len]; done) | (simp only [lenE, markR_len]; omega)) only [runE, mapE, listE, initT_5, initT_6, initT_7, initT_8, resV, oneV, binA, unA, reduceCtorEq, Nat.reduceEqDiff, Nat.reduceAdd, Nat.reduceLT, Nat.reduceLeDiff, Nat.reduceMul, Nat.reduceSub, ↓reduceIte, decide_true, decide_false, Bool.true_eq_false, Bool.false_eq_true, Bool.not_true, Bool.not_false, if_true, if_false, and_true, true_and, memE, celE, w64, Nat.zero_add, Nat.add_zero, Nat.mul_one, putL, and_self, ldn, c_impl_areWeights, r_impl_areWeights, hr.len, hl']
    refine callH_rc (isRow_rc _ v w w.length most hr) ?_
    rintro r new ⟨rfl, nr⟩
    cases b2 : Go.Proofs.Ytpedjcagaeedjaa.rowB w w.length most with
    | false =>
      simp (config := {implicitDefEqProofs := false, maxDischargeDepth := 20}) (disch := first | omega | (simp only [lenE]; done) | (simp only [lenE]; omega) | rfl | (simp only [lenE, markR_len]; done) | (simp only [lenE, markR_len]; omega)) only [runE, mapE, listE, initT_5, initT_6, initT_7, initT_8, resV, oneV, binA, unA, reduceCtorEq, Nat.reduceEqDiff, Nat.reduceAdd, Nat.reduceLT, Nat.reduceLeDiff, Nat.reduceMul, Nat.reduceSub, ↓reduceIte, decide_true, decide_false, Bool.true_eq_false, Bool.false_eq_true, Bool.not_true, Bool.not_false, if_true, if_false, and_true, true_and, memE, celE, w64, Nat.zero_add, Nat.add_zero, Nat.mul_one, putL, and_self, ldn]
      try simp only [List.append_assoc, List.cons_append, List.nil_append, List.append_nil]
      exact ⟨_, rfl, by (repeat (first | exact noRo_nil | assumption | apply noRo_own | apply noRo_dead | apply noRo_app)), by simp, by (repeat (first | exact noRo_nil | assumption | apply noRo_own | apply noRo_dead | apply noRo_app))⟩
    | true =>
    simp (config := {implicitDefEqProofs := false, maxDischargeDepth := 20}) (disch := first | omega | (simp only [lenE]; done) | (simp only [lenE]; omega) | rfl | (simp only [lenE, markR_len]; done) | (simp only [lenE, markR_len]; omega)) only [runE, mapE, listE, initT_5, initT_6, initT_7, initT_8, resV, oneV, binA, unA, reduceCtorEq, Nat.reduceEqDiff, Nat.reduceAdd, Nat.reduceLT, Nat.reduceLeDiff, Nat.reduceMul, Nat.reduceSub, ↓reduceIte, decide_true, decide_false, Bool.true_eq_false, Bool.false_eq_true, Bool.not_true, Bool.not_false, if_true, if_false, and_true, true_and, memE, celE, w64, Nat.zero_add, Nat.add_zero, Nat.mul_one, putL, and_self, ldn]
    refine callH_rc (sumOf_rc _ v w (hr.ext _) (row_small hl hn hm b2)) ?_
    rintro r new ⟨rfl, rfl⟩
    simp (config := {implicitDefEqProofs := false, maxDischargeDepth := 20}) (disch := first | omega | (simp only [lenE]; done) | (simp only [lenE]; omega) | rfl | (simp only [lenE, markR_len]; done) | (simp only [lenE, markR_len]; omega)) only [runE, mapE, listE, initT_5, initT_6, initT_7, initT_8, resV, oneV, binA, unA, reduceCtorEq, Nat.reduceEqDiff, Nat.reduceAdd, Nat.reduceLT, Nat.reduceLeDiff, Nat.reduceMul, Nat.reduceSub, ↓reduceIte, decide_true, decide_false, Bool.true_eq_false, Bool.false_eq_true, Bool.not_true, Bool.not_false, if_true, if_false, and_true, true_and, memE, celE, w64, Nat.zero_add, Nat.add_zero, Nat.mul_one, putL, and_self, ldn, gt_iff_lt]
    try simp only [List.append_assoc, List.cons_append, List.nil_append, List.append_nil]
    exact ⟨_, rfl, by (repeat (first | exact noRo_nil | assumption | apply noRo_own | apply noRo_dead | apply noRo_app)), by simp [hl], by (repeat (first | exact noRo_nil | assumption | apply noRo_own | apply noRo_dead | apply noRo_app))⟩
  · have hl' : ¬ ((w.length : Int) ≤ n) := by omega
    simp (config := {implicitDefEqProofs := false, maxDischargeDepth := 20}) (disch := first | omega | (simp only [lenE]; done) | (simp only [lenE]; omega) | rfl | (simp only [lenE, markR_len]; done) | (simp only [lenE, markR_len]; omega)) only [runE, mapE, listE, initT_5, initT_6, initT_7, initT_8, resV, oneV, binA, unA, reduceCtorEq, Nat.reduceEqDiff, Nat.reduceAdd, Nat.reduceLT, Nat.reduceLeDiff, Nat.reduceMul, Nat.reduceSub, ↓reduceIte, decide_true, decide_false, Bool.true_eq_false, Bool.false_eq_true, Bool.not_true, Bool.not_false, if_true, if_false, and_true, true_and, memE, celE, w64, Nat.zero_add, Nat.add_zero, Nat.mul_one, putL, and_self, ldn, c_impl_areWeights, r_impl_areWeights, hr.len, hl']
    exact newQ_nil ⟨by simp [hl], noRo_nil⟩
end Go.Proofs.Ytpedjcagaeedjaa.Ab
end
section
namespace Go.Proofs.Ytpedjcagaeedjaa.Ab
open Go Go.RowKit
set_option linter.unusedVariables false
set_option linter.unusedSimpArgs false
theorem _root_.Go.Proofs.Ytpedjcagaeedjaa.Dist.small {w : List Int} (h : Dist w) (k : Nat) (hk : k ≤ w.length) : -4611686018427387904 ≤ sumTo w k ∧ sumTo w k ≤ 4611686018427387904 := by
  have := h.sum k
  have := h.l16
  omega

end Go.Proofs.Ytpedjcagaeedjaa.Ab
end
section
namespace Go.Proofs.Ytpedjcagaeedjaa.Ab
open Go Go.RowKit
set_option linter.unusedVariables false
set_option linter.unusedSimpArgs false
theorem appB {M : Mem} {id1 id2 : Nat} {e : TypeId} {sz byt n1 n2 fl : Nat} {cs1 cs2 : List Value} (h1 : OwnB M id1 e cs1) (h2 : OwnB M id2 e cs2) (l1 : cs1.length = n1 * sz) (l2 : cs2.length = n2 * sz) (ho : onesB cs2 = true)
    (hb : n1 + n2 ≤ 1048576) (hy : byt ≤ 1000000) :
    appP M e sz byt (.slice (some ⟨id1, 0, none⟩) n1 sz) (.slice (some ⟨id2, 0, none⟩) n2 fl) = some (.slice (some ⟨M.length, 0, none⟩) (n1 + n2) sz, M.set id1 deadB ++ [⟨.own, e, cs1 ++ cs2⟩]) := by
  have e1 : slR M sz (.slice (some ⟨id2, 0, none⟩) n2 fl) = some cs2 := by
    simp only [slR]; exact h2.rdl l2.symm
  have hm : (n1 + n2) * byt ≤ 1048576 * 1000000 := Nat.mul_le_mul hb hy
  unfold appP
  rw [e1]
  simp only [ho, if_true, appA, lenOfA]
  rw [show M[id1]? = some ⟨.own, e, cs1⟩ from h1]
  simp only [l1, true_and]
  rw [if_pos (by omega)]
theorem app_back {M : Mem} {id id2 n : Nat} {e : TypeId} {sz byt : Nat} {cs ys : List Value} (h : OwnB M id e cs) (h2 : id2 = M.length) (l1 : cs.length = n * sz) (l2 : ys.length = sz) (ho : onesB ys = true) (hb : n ≤ 1000000) (hy : byt ≤ 1000000) :
    appP (M ++ [⟨.own, e, ys⟩]) e sz byt (.slice (some ⟨id, 0, none⟩) n sz) (.slice (some ⟨id2, 0, none⟩) 1 sz) =
      some (.slice (some ⟨id2 + 1, 0, none⟩) (n + 1) sz, M.set id deadB ++ [⟨.own, e, ys⟩] ++ [⟨.own, e, cs ++ ys⟩]) := by
  subst h2
  rw [appB (h.ext _) (OwnB.here rfl) l1 (by rw [l2, Nat.one_mul]) ho (by omega) hy, List.set_append_left _ _ h.lt]
  simp
theorem bsl_no {m : Mem} {e : TypeId} {sz : Nat} : bslA m e sz 0 [] [] = some (.slice (some ⟨m.length, 0, none⟩) 0 sz, m ++ [⟨.own, e, []⟩]) := rfl
theorem app_num {M : Mem} {l : List Int} {x : Int} {id id2 n : Nat} (h : OwnR M id l) (hb : l.length ≤ 1048576) (h2 : id2 = M.length) (hn : n = l.length) :
    appP (M ++ [⟨.own, 3, [.int .i64 x]⟩]) 3 1 8 (.slice (some ⟨id, 0, none⟩) n 1) (.slice (some ⟨id2, 0, none⟩) 1 1) =
      some (.slice (some ⟨id2 + 1, 0, none⟩) (n + 1) 1, M.set id deadB ++ [⟨.own, 3, [.int .i64 x]⟩] ++ [⟨.own, 3, (l ++ [x]).map (Value.int .i64)⟩]) := by
  subst h2 hn
  exact app_gen h hb
def TabX (T : List (List Int)) (lo hi : Nat) (M : Mem) (id : Nat) (R F : Nat → Nat) : Prop :=
  lo ≤ id ∧ id < hi ∧ OwnB M id 24 (rowsC T R F) ∧ (∀ j, j < T.length → lo ≤ R j ∧ R j < hi ∧ OwnR M (R j) (T.getD j [])) ∧ ∀ i j, i < T.length → j < T.length → R i = R j → i = j
theorem TabX.at_ {T : List (List Int)} {lo hi : Nat} {M M' : Mem} {id : Nat} {R F : Nat → Nat} (h : TabX T lo hi M id R F) (hs : ∀ i, lo ≤ i → i < hi → M'[i]? = M[i]?) : TabX T lo hi M' id R F :=
  ⟨h.1, h.2.1, h.2.2.1.at_ (hs _ h.1 h.2.1), fun j hj => by obtain ⟨a, b, c⟩ := h.2.2.2.1 j hj; exact ⟨a, b, c.at_ (hs _ a b)⟩, h.2.2.2.2⟩
theorem TabX.ext {T : List (List Int)} {lo hi : Nat} {M : Mem} {id : Nat} {R F : Nat → Nat} (h : TabX T lo hi M id R F) (hh : hi ≤ M.length) (new : Mem) : TabX T lo hi (M ++ new) id R F :=
  h.at_ fun i _ h2 => List.getElem?_append_left (by omega)
theorem same_gen {M : Mem} {id i : Nat} {b : Blk} {x y : Mem} (h : i < id) (hl : id < M.length) : (M.set id b ++ x ++ y)[i]? = M[i]? := by
  rw [List.append_assoc, List.getElem?_append_left (by rw [List.length_set]; omega), List.getElem?_set_ne (by omega)]
theorem rowsC_cons {T : List (List Int)} {r : List Int} {R F : Nat → Nat} {rid f : Nat} :
    rowsC (r :: T) (fun j => if j = 0 then rid else R (j - 1)) (fun j => if j = 0 then f else F (j - 1)) = .slice (some ⟨rid, 0, none⟩) r.length f :: rowsC T R F := by
  unfold rowsC
  rw [List.length_cons, List.range_succ_eq_map, List.map_cons, List.map_map]
  congr 1
theorem TabX.cons {T : List (List Int)} {r : List Int} {lo hi hi' : Nat} {M M' : Mem} {id id' rid f : Nat} {R F : Nat → Nat} (h : TabX T lo hi M id R F) (hs : ∀ i, lo ≤ i → i < hi → M'[i]? = M[i]?)
    (h1 : lo ≤ id') (h2 : id' < hi') (h3 : OwnB M' id' 24 (.slice (some ⟨rid, 0, none⟩) r.length f :: rowsC T R F)) (h4 : hi ≤ rid) (h5 : rid < hi') (h6 : OwnR M' rid r) (h7 : hi ≤ hi') :
    TabX (r :: T) lo hi' M' id' (fun j => if j = 0 then rid else R (j - 1)) (fun j => if j = 0 then f else F (j - 1)) := by
  have hx := h.at_ hs
  refine ⟨h1, h2, by rw [rowsC_cons]; exact h3, fun j hj => ?_, fun i j hi hj he => ?_⟩
  · cases j with
    | zero => exact ⟨by have := h.1; have := h.2.1; simp; omega, by simpa using h5, by simpa using h6⟩
    | succ j =>
      obtain ⟨a, b, c⟩ := hx.2.2.2.1 j (by simpa using hj)
      exact ⟨by simpa using a, by simp; omega, by simpa using c⟩
  · cases i with
    | zero =>
      cases j with
      | zero => rfl
      | succ j =>
        have := (h.2.2.2.1 j (by simpa using hj)).2.1
        simp at he; omega
    | succ i =>
      cases j with
      | zero =>
        have := (h.2.2.2.1 i (by simpa using hi)).2.1
        simp at he; omega
      | succ j =>
        have := h.2.2.2.2 i j (by simpa using hi) (by simpa using hj) (by simpa using he)
        omega
def Wide (O : Nat → Nat → Mem → Value → Prop) : Prop := ∀ lo hi lo' hi' M v, lo' ≤ lo → hi ≤ hi' → O lo hi M v → O lo' hi' M v
end Go.Proofs.Ytpedjcagaeedjaa.Ab
end
