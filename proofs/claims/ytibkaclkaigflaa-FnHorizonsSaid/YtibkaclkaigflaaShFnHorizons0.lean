/- What the law needs of the texts that it rests on. -/
import Derived.Test.YtibkaclkaigflaaAb2
import Derived.Test.YtibkaclkaigflaaProg
import Derived.WalkKit
import Derived.Lib.Hide
import Derived.Below
import Derived.Laws.OwnMore
import Derived.Deep.Draws
import Derived.Test.YtibkaclkaigflaaRows
import Derived.ProofKit
import Derived.SliceStrings
import Derived.OpenShut
import Derived.ChangeSlices
import Derived.RangeFuncBox
import Derived.RangeFuncLeaves
import Derived.Shelf.Abstract
import Derived.OwnWalkIn
import Derived.TacticsInMore
import Derived.LoopNIn
import Derived.LoopIn
import Derived.JoinedOf
section
namespace Go.Proofs.Ytibkaclkaigflaa.Ab
open Go Go.RowKit
theorem initT_5 (x y z u v a : Value) (xs : List Value) : initT (x :: y :: z :: u :: v :: a :: xs) 5 = a := rfl
theorem initT_6 (x y z u v a b : Value) (xs : List Value) : initT (x :: y :: z :: u :: v :: a :: b :: xs) 6 = b := rfl
theorem initT_7 (x y z u v a b c : Value) (xs : List Value) : initT (x :: y :: z :: u :: v :: a :: b :: c :: xs) 7 = c := rfl
theorem initT_8 (x y z u v a b c d : Value) (xs : List Value) : initT (x :: y :: z :: u :: v :: a :: b :: c :: d :: xs) 8 = d := rfl
theorem runE : type_of% (And.intro (And.intro (And.intro (And.intro (And.intro (And.intro (And.intro @goC_skip @goC_reg) (And.intro @goC_seq (And.intro @goC_cond @goC_block))) (And.intro (And.intro @goC_loop (And.intro @goC_exit @goC_ret)) (And.intro @goB_true (And.intro @goB_false @goX_seq_normal)))) (And.intro (And.intro (And.intro @goX_seq_exit (And.intro @goX_seq_ret @goX_block_normal)) (And.intro @goX_block_ret (And.intro @goX_block_exit @goX_done))) (And.intro (And.intro @goR_nil (And.intro @goV_some @goA_some)) (And.intro @goS_some (And.intro @goG_run @goG_tf))))) (And.intro (And.intro (And.intro (And.intro @goG_ft (And.intro @goG_no @goR_guard)) (And.intro @callV_func (And.intro @rcallV_func @pickA_true))) (And.intro (And.intro @pickA_false (And.intro @beqA_eq @beqA_ne)) (And.intro @convA_int (And.intro @stP_int @stP_bool)))) (And.intro (And.intro (And.intro @stP_sl (And.intro @stP_fn @seqQ_normal)) (And.intro @seqQ_exit (And.intro @seqQ_ret @bodyQ_ret))) (And.intro (And.intro @bodyQ_normal (And.intro @row_mv @row_cpy)) (And.intro @row_mmx (And.intro @mmA_min @mmA_max)))))) (And.intro (And.intro (And.intro (And.intro (And.intro @row_mkf @row_pick) (And.intro @row_beq (And.intro @row_conv @row_bld))) (And.intro (And.intro @row_box (And.intro @row_alc @row_bsl)) (And.intro @row_mks (And.intro @row_st @row_app)))) (And.intro (And.intro (And.intro @row_call (And.intro @row_rcall @row_bin)) (And.intro @row_un (And.intro @row_ld @row_fld))) (And.intro (And.intro @row_fad (And.intro @row_iad @row_iada)) (And.intro @row_idxs (And.intro @row_idxa @row_slc))))) (And.intro (And.intro (And.intro (And.intro (And.intro @row_slcs @row_slcp) (And.intro @row_len @row_lens)) (And.intro @row_ext (And.intro @row_nilc @ev_tmp))) (And.intro (And.intro @ev_const (And.intro @ev_func @put_t)) (And.intro @put_t' (And.intro @put_m @putT_t)))) (And.intro (And.intro (And.intro @putT_t' (And.intro @putT_m @init_t)) (And.intro @init_m (And.intro @initT_0 @initT_1))) (And.intro (And.intro @initT_2 (And.intro @initT_3 @initT_4)) (And.intro @empty_list (And.intro @arr_list @lenA_sl))))))) (And.intro (And.intro @row_mif @row_sln) (And.intro @row_clr (And.intro @row_inv @invV_some)))) := (And.intro (And.intro (And.intro (And.intro (And.intro (And.intro (And.intro @goC_skip @goC_reg) (And.intro @goC_seq (And.intro @goC_cond @goC_block))) (And.intro (And.intro @goC_loop (And.intro @goC_exit @goC_ret)) (And.intro @goB_true (And.intro @goB_false @goX_seq_normal)))) (And.intro (And.intro (And.intro @goX_seq_exit (And.intro @goX_seq_ret @goX_block_normal)) (And.intro @goX_block_ret (And.intro @goX_block_exit @goX_done))) (And.intro (And.intro @goR_nil (And.intro @goV_some @goA_some)) (And.intro @goS_some (And.intro @goG_run @goG_tf))))) (And.intro (And.intro (And.intro (And.intro @goG_ft (And.intro @goG_no @goR_guard)) (And.intro @callV_func (And.intro @rcallV_func @pickA_true))) (And.intro (And.intro @pickA_false (And.intro @beqA_eq @beqA_ne)) (And.intro @convA_int (And.intro @stP_int @stP_bool)))) (And.intro (And.intro (And.intro @stP_sl (And.intro @stP_fn @seqQ_normal)) (And.intro @seqQ_exit (And.intro @seqQ_ret @bodyQ_ret))) (And.intro (And.intro @bodyQ_normal (And.intro @row_mv @row_cpy)) (And.intro @row_mmx (And.intro @mmA_min @mmA_max)))))) (And.intro (And.intro (And.intro (And.intro (And.intro @row_mkf @row_pick) (And.intro @row_beq (And.intro @row_conv @row_bld))) (And.intro (And.intro @row_box (And.intro @row_alc @row_bsl)) (And.intro @row_mks (And.intro @row_st @row_app)))) (And.intro (And.intro (And.intro @row_call (And.intro @row_rcall @row_bin)) (And.intro @row_un (And.intro @row_ld @row_fld))) (And.intro (And.intro @row_fad (And.intro @row_iad @row_iada)) (And.intro @row_idxs (And.intro @row_idxa @row_slc))))) (And.intro (And.intro (And.intro (And.intro (And.intro @row_slcs @row_slcp) (And.intro @row_len @row_lens)) (And.intro @row_ext (And.intro @row_nilc @ev_tmp))) (And.intro (And.intro @ev_const (And.intro @ev_func @put_t)) (And.intro @put_t' (And.intro @put_m @putT_t)))) (And.intro (And.intro (And.intro @putT_t' (And.intro @putT_m @init_t)) (And.intro @init_m (And.intro @initT_0 @initT_1))) (And.intro (And.intro @initT_2 (And.intro @initT_3 @initT_4)) (And.intro @empty_list (And.intro @arr_list @lenA_sl))))))) (And.intro (And.intro @row_mif @row_sln) (And.intro @row_clr (And.intro @row_inv @invV_some))))
theorem memE : type_of% (And.intro (And.intro (And.intro (And.intro (And.intro @fad1 @ld1) (And.intro @aggO_some @consO_some)) (And.intro (And.intro @rdn_0 @rdn_1) (And.intro @rdn_2 @rdn_3))) (And.intro (And.intro (And.intro @rdn_4 @rdn_5) (And.intro @rdn_6 @rdn_7)) (And.intro (And.intro @rdn_8 @rdc_lastH) (And.intro @rdc_left (And.intro @stA_left @stA_lastH))))) (And.intro (And.intro (And.intro (And.intro @stP_aggL @cells_agg) (And.intro @cells_sl @cells_int)) (And.intro (And.intro @cells_bool @cells_ptr) (And.intro @cells_str @cells_fn))) (And.intro (And.intro (And.intro @roM_len @onesB_sl) (And.intro @onesB_int @onesB_bool)) (And.intro (And.intro @onesB_str @onesB_ptr) (And.intro @onesB_fn (And.intro @onesB_nil @onesB_ints)))))) := (And.intro (And.intro (And.intro (And.intro (And.intro @fad1 @ld1) (And.intro @aggO_some @consO_some)) (And.intro (And.intro @rdn_0 @rdn_1) (And.intro @rdn_2 @rdn_3))) (And.intro (And.intro (And.intro @rdn_4 @rdn_5) (And.intro @rdn_6 @rdn_7)) (And.intro (And.intro @rdn_8 @rdc_lastH) (And.intro @rdc_left (And.intro @stA_left @stA_lastH))))) (And.intro (And.intro (And.intro (And.intro @stP_aggL @cells_agg) (And.intro @cells_sl @cells_int)) (And.intro (And.intro @cells_bool @cells_ptr) (And.intro @cells_str @cells_fn))) (And.intro (And.intro (And.intro @roM_len @onesB_sl) (And.intro @onesB_int @onesB_bool)) (And.intro (And.intro @onesB_str @onesB_ptr) (And.intro @onesB_fn (And.intro @onesB_nil @onesB_ints))))))
theorem listE : type_of% (And.intro (And.intro @List.map_cons.{0, 0} @List.map_nil.{0, 0}) (And.intro @List.cons_append.{0} (And.intro @List.nil_append.{0} @List.append_nil.{0}))) := (And.intro (And.intro @List.map_cons.{0, 0} @List.map_nil.{0, 0}) (And.intro @List.cons_append.{0} (And.intro @List.nil_append.{0} @List.append_nil.{0})))
theorem celE : type_of% (And.intro (And.intro (And.intro @Option.map_some.{0, 0} @List.getElem?_cons_zero.{0}) (And.intro @List.getElem?_cons_succ.{0} (And.intro @List.length_append.{0} @List.length_cons.{0}))) (And.intro (And.intro @List.length_nil.{0} @List.length_map.{0, 0}) (And.intro @List.length_set.{0} (And.intro @List.set_cons_zero.{0} @List.set_cons_succ.{0})))) := (And.intro (And.intro (And.intro @Option.map_some.{0, 0} @List.getElem?_cons_zero.{0}) (And.intro @List.getElem?_cons_succ.{0} (And.intro @List.length_append.{0} @List.length_cons.{0}))) (And.intro (And.intro @List.length_nil.{0} @List.length_map.{0, 0}) (And.intro @List.length_set.{0} (And.intro @List.set_cons_zero.{0} @List.set_cons_succ.{0}))))
theorem lenE : type_of% (And.intro (And.intro @List.length_append.{0} @List.length_cons.{0}) (And.intro @List.length_nil.{0} (And.intro @List.length_set.{0} @roM_len))) := (And.intro (And.intro @List.length_append.{0} @List.length_cons.{0}) (And.intro @List.length_nil.{0} (And.intro @List.length_set.{0} @roM_len)))
theorem mapE : type_of% (And.intro (And.intro (And.intro (And.intro (And.intro (And.intro @goC_both @row_aeq) @row_mkm) (And.intro @row_mup @row_lkp)) (And.intro (And.intro @stP_map @onesB_map) (And.intro @goC_range @rng_t2))) (And.intro (And.intro (And.intro @rng_t1 @rng_t0) (And.intro @rng_m @goC_scope)) (And.intro (And.intro @goC_goto @goC_label) (And.intro @goX_seq_goto (And.intro @goX_block_goto @goX_scope_normal))))) (And.intro (And.intro (And.intro (And.intro @goX_scope_ret @goX_scope_exit) (And.intro @goX_scope_goto @goJ_some)) (And.intro (And.intro @goJ_none @findA_seq) (And.intro @findA_label @findA_reg))) (And.intro (And.intro (And.intro @findA_skip @findA_cond) (And.intro @findA_block @findA_loop)) (And.intro (And.intro @findA_exit @findA_goto) (And.intro @findA_ret (And.intro @findS_some @findS_none)))))) := (And.intro (And.intro (And.intro (And.intro (And.intro (And.intro @goC_both @row_aeq) @row_mkm) (And.intro @row_mup @row_lkp)) (And.intro (And.intro @stP_map @onesB_map) (And.intro @goC_range @rng_t2))) (And.intro (And.intro (And.intro @rng_t1 @rng_t0) (And.intro @rng_m @goC_scope)) (And.intro (And.intro @goC_goto @goC_label) (And.intro @goX_seq_goto (And.intro @goX_block_goto @goX_scope_normal))))) (And.intro (And.intro (And.intro (And.intro @goX_scope_ret @goX_scope_exit) (And.intro @goX_scope_goto @goJ_some)) (And.intro (And.intro @goJ_none @findA_seq) (And.intro @findA_label @findA_reg))) (And.intro (And.intro (And.intro @findA_skip @findA_cond) (And.intro @findA_block @findA_loop)) (And.intro (And.intro @findA_exit @findA_goto) (And.intro @findA_ret (And.intro @findS_some @findS_none))))))
end Go.Proofs.Ytibkaclkaigflaa.Ab
end
section
namespace Go.Proofs.Ytibkaclkaigflaa.Ab
open Go Go.RowKit
set_option linter.unusedVariables false
set_option linter.unusedSimpArgs false
theorem mixed : Try.prog.follows .mixedOrders = true := by kernel_rfl
def imarks (k : Int) (n : Nat) : List Int := (List.range n).map fun (j : Nat) => k + (j : Int)
end Go.Proofs.Ytibkaclkaigflaa.Ab
end
section
namespace Go.Proofs.Ytibkaclkaigflaa
set_option linter.unusedVariables false
def rowB (l : List Int) (n : Nat) (most : Int) : Bool := l.all (fun x => decide (0 ≤ x) && decide (x ≤ most)) && decide (l.length = n)
theorem rowB_iff {l : List Int} {n : Nat} {most : Int} : rowB l n most = true ↔ (∀ x ∈ l, 0 ≤ x ∧ x ≤ most) ∧ l.length = n := by
  simp [rowB]

structure Cs where
  need : List Int
  setup : List Int
  unit : List Int
  hold : List Int
def Cs.good (c : Cs) : Bool := decide (c.need.length ≤ 8) && rowB c.need c.need.length 20 && rowB c.setup c.need.length 99 && rowB c.unit c.need.length 9 && rowB c.hold c.need.length 9
structure Good (c : Cs) : Prop where
  n8 : c.need.length ≤ 8
  need : ∀ x ∈ c.need, 0 ≤ x ∧ x ≤ 20
  setup : ∀ x ∈ c.setup, 0 ≤ x ∧ x ≤ 99
  unit : ∀ x ∈ c.unit, 0 ≤ x ∧ x ≤ 9
  hold : ∀ x ∈ c.hold, 0 ≤ x ∧ x ≤ 9
  ls : c.setup.length = c.need.length
  lu : c.unit.length = c.need.length
  lh : c.hold.length = c.need.length
theorem good_iff {c : Cs} : c.good = true ↔ Good c := by
  simp only [Cs.good, Bool.and_eq_true, decide_eq_true_eq, rowB_iff]
  constructor
  · rintro ⟨⟨⟨⟨h1, h2, _⟩, h3, h4⟩, h5, h6⟩, h7, h8⟩
    exact ⟨h1, h2, h3, h5, h7, h4, h6, h8⟩
  · rintro ⟨h1, h2, h3, h5, h7, h4, h6, h8⟩
    exact ⟨⟨⟨⟨h1, h2, by trivial⟩, h3, h4⟩, h5, h6⟩, h7, h8⟩

theorem at_mem {α : Type} {l : List α} {P : α → Prop} (h : ∀ x ∈ l, P x) {k : Nat} {x : α} (hk : l[k]? = some x) : P x := h x (List.mem_of_getElem? hk)
def sumTo (l : List Int) (k : Nat) : Int := (l.take k).sum
theorem sumTo_succ {l : List Int} {k : Nat} {x : Int} (h : l[k]? = some x) : sumTo l (k + 1) = sumTo l k + x := by
  obtain ⟨hk, rfl⟩ := List.getElem?_eq_some_iff.1 h
  unfold sumTo
  rw [List.take_succ_eq_append_getElem hk, List.sum_append]
  simp
theorem sumTo_all {l : List Int} {k : Nat} (h : l.length ≤ k) : sumTo l k = l.sum := by
  unfold sumTo; rw [List.take_of_length_le h]
theorem sumTo_bound {l : List Int} {m : Int} (hm : 0 ≤ m) (h : ∀ x ∈ l, 0 ≤ x ∧ x ≤ m) (k : Nat) : 0 ≤ sumTo l k ∧ sumTo l k ≤ m * k := by
  induction k with
  | zero => simp [sumTo]
  | succ k ih =>
    by_cases hk : k < l.length
    · have h1 := sumTo_succ (List.getElem?_eq_getElem hk)
      have h2 := h _ (List.getElem_mem hk)
      rw [h1]
      have : m * ((k + 1 : Nat) : Int) = m * k + m := by rw [Int.natCast_add, Int.mul_add]; simp
      omega
    · have h1 : sumTo l (k + 1) = sumTo l k := by rw [sumTo_all (by omega), sumTo_all (by omega)]
      rw [h1]
      have : m * ((k + 1 : Nat) : Int) = m * k + m := by rw [Int.natCast_add, Int.mul_add]; simp
      omega
theorem sumTo_mono {l : List Int} (h : ∀ x ∈ l, 0 ≤ x) {j k : Nat} (hjk : j ≤ k) : sumTo l j ≤ sumTo l k := by
  induction k with
  | zero => obtain rfl : j = 0 := by omega
            exact Int.le_refl _
  | succ k ih =>
    rcases Nat.lt_or_ge j (k + 1) with h1 | h1
    · have := ih (by omega)
      by_cases hk : k < l.length
      · have h2 := sumTo_succ (List.getElem?_eq_getElem hk)
        have h3 := h _ (List.getElem_mem hk)
        omega
      · rw [show sumTo l (k + 1) = sumTo l k by rw [sumTo_all (by omega), sumTo_all (by omega)]]
        exact this
    · obtain rfl : j = k + 1 := by omega
      exact Int.le_refl _

def stk (plan need : List Int) (t : Nat) : Int := sumTo plan (t + 1) - sumTo need (t + 1)
def stocksTo (plan need : List Int) (k : Nat) : List Int := (List.range k).map (stk plan need)
def stocksL (plan need : List Int) : List Int := stocksTo plan need plan.length
theorem stocksTo_zero (plan need : List Int) : stocksTo plan need 0 = [] := rfl
theorem stocksTo_succ (plan need : List Int) (k : Nat) : stocksTo plan need (k + 1) = stocksTo plan need k ++ [stk plan need k] := by
  simp [stocksTo, List.range_succ]
theorem stocksTo_len (plan need : List Int) (k : Nat) : (stocksTo plan need k).length = k := by simp [stocksTo]
theorem stocksTo_at {plan need : List Int} {k t : Nat} (h : t < k) : (stocksTo plan need k)[t]? = some (stk plan need t) := by
  simp [stocksTo, h]

def Plan (c : Cs) (plan : List Int) : Prop :=
  plan.length = c.need.length ∧ (∀ x ∈ plan, 0 ≤ x ∧ x ≤ 160) ∧ (∀ t, t < plan.length → 0 ≤ stk plan c.need t) ∧ sumTo plan plan.length = sumTo c.need plan.length
def planB (c : Cs) (plan : List Int) : Bool :=
  rowB plan c.need.length 160 && (stocksL plan c.need).all (fun x => decide (0 ≤ x)) && decide (sumTo plan plan.length = sumTo c.need plan.length)
theorem planB_iff {c : Cs} {plan : List Int} : planB c plan = true ↔ Plan c plan := by
  simp only [planB, Bool.and_eq_true, decide_eq_true_eq, rowB_iff, Plan, stocksL, stocksTo]
  constructor
  · rintro ⟨⟨⟨h1, h2⟩, h3⟩, h4⟩
    refine ⟨h2, h1, fun t ht => ?_, h4⟩
    rw [List.all_eq_true] at h3
    have := h3 (stk plan c.need t) (List.mem_map.2 ⟨t, List.mem_range.2 ht, rfl⟩)
    simpa using this
  · rintro ⟨h2, h1, h3, h4⟩
    refine ⟨⟨⟨h1, h2⟩, ?_⟩, h4⟩
    rw [List.all_eq_true]
    intro x hx
    obtain ⟨t, ht, rfl⟩ := List.mem_map.1 hx
    simpa using h3 t (List.mem_range.1 ht)
def two (c : Cs) (plan : List Int) : Bool := c.good && planB c plan

def cSet (c : Cs) (plan : List Int) : Nat → Int
  | 0 => 0
  | k + 1 => if 0 < plan.getD k 0 then cSet c plan k + c.setup.getD k 0 else cSet c plan k
def cUnit (c : Cs) (plan : List Int) : Nat → Int
  | 0 => 0
  | k + 1 => cUnit c plan k + c.unit.getD k 0 * plan.getD k 0
def cHold (c : Cs) (plan : List Int) : Nat → Int
  | 0 => 0
  | k + 1 => cHold c plan k + c.hold.getD k 0 * stk plan c.need k
theorem getD_bound {l : List Int} {m : Int} (hm : 0 ≤ m) (h : ∀ x ∈ l, 0 ≤ x ∧ x ≤ m) (k : Nat) : 0 ≤ l.getD k 0 ∧ l.getD k 0 ≤ m := by
  rw [List.getD_eq_getElem?_getD]
  cases hk : l[k]? with
  | none => simp [hm]
  | some x => simpa using at_mem h hk
theorem mul_bound {a b m n : Int} (ha : 0 ≤ a) (ha2 : a ≤ m) (hb : 0 ≤ b) (hb2 : b ≤ n) : 0 ≤ a * b ∧ a * b ≤ m * n :=
  ⟨Int.mul_nonneg ha hb, Int.le_trans (Int.mul_le_mul_of_nonneg_right ha2 hb) (Int.mul_le_mul_of_nonneg_left hb2 (by omega))⟩
theorem stk_bound {c : Cs} {plan : List Int} (hg : Good c) (hp : ∀ x ∈ plan, 0 ≤ x ∧ x ≤ 160) (k : Nat) (hk : k < 9) : -180 ≤ stk plan c.need k ∧ stk plan c.need k ≤ 1440 := by
  have h1 := sumTo_bound (m := 160) (by omega) hp (k + 1)
  have h2 := sumTo_bound (m := 20) (by omega) hg.need (k + 1)
  unfold stk
  omega
theorem cSet_bound {c : Cs} {plan : List Int} (hg : Good c) (k : Nat) : 0 ≤ cSet c plan k ∧ cSet c plan k ≤ 99 * k := by
  induction k with
  | zero => simp [cSet]
  | succ k ih =>
    have := getD_bound (m := 99) (by omega) hg.setup k
    rw [cSet]
    split <;> omega
theorem cUnit_bound {c : Cs} {plan : List Int} (hg : Good c) (hp : ∀ x ∈ plan, 0 ≤ x ∧ x ≤ 160) (k : Nat) : 0 ≤ cUnit c plan k ∧ cUnit c plan k ≤ 1440 * k := by
  induction k with
  | zero => simp [cUnit]
  | succ k ih =>
    have h1 := getD_bound (m := 9) (by omega) hg.unit k
    have h2 := getD_bound (m := 160) (by omega) hp k
    have := mul_bound h1.1 h1.2 h2.1 h2.2
    rw [cUnit]
    omega
theorem cHold_bound {c : Cs} {plan : List Int} (hg : Good c) (hp : ∀ x ∈ plan, 0 ≤ x ∧ x ≤ 160) (k : Nat) (hk : k ≤ 9) : -1620 * k ≤ cHold c plan k ∧ cHold c plan k ≤ 12960 * k := by
  induction k with
  | zero => simp [cHold]
  | succ k ih =>
    have h1 := getD_bound (m := 9) (by omega) hg.hold k
    have h2 := stk_bound hg hp k (by omega)
    have ih := ih (by omega)
    have h3 : -1620 ≤ c.hold.getD k 0 * stk plan c.need k ∧ c.hold.getD k 0 * stk plan c.need k ≤ 12960 := by
      rcases Int.le_total 0 (stk plan c.need k) with h | h
      · have := mul_bound h1.1 h1.2 h h2.2
        omega
      · have := mul_bound h1.1 h1.2 (b := - stk plan c.need k) (n := 180) (by omega) (by omega)
        rw [Int.mul_neg] at this
        omega
    rw [cHold]
    omega
def costOf (c : Cs) (plan : List Int) : Int := cSet c plan plan.length + cUnit c plan plan.length + cHold c plan plan.length
end Go.Proofs.Ytibkaclkaigflaa
end
section
namespace Go.Proofs.Ytibkaclkaigflaa.Ab
open Go Go.RowKit
set_option linter.unusedVariables false
set_option linter.unusedSimpArgs false
abbrev rowB (l : List Int) : Blk := ⟨.own, 3, l.map (Value.int .i64)⟩
def markR (m : Mem) (id : Nat) (k0 : Int) (n : Nat) : Mem := m.set id (rowB (imarks k0 n))
theorem markR_len (m : Mem) (id : Nat) (k0 : Int) (n : Nat) : (markR m id k0 n).length = m.length := by simp [markR]

structure CaseA (m : Mem) (v : Value) (k : Cs) : Prop where
  ok : ∃ v1 v2 v3 v4, v = .agg #[v1, v2, v3, v4] ∧ IntsA m v1 k.need ∧ IntsA m v2 k.setup ∧ IntsA m v3 k.unit ∧ IntsA m v4 k.hold
theorem CaseA.ext {m : Mem} {v : Value} {k : Cs} (h : CaseA m v k) (new : Mem) : CaseA (m ++ new) v k := by
  obtain ⟨v1, v2, v3, v4, h0, h1, h2, h3, h4⟩ := h.ok
  exact ⟨v1, v2, v3, v4, h0, h1.ext new, h2.ext new, h3.ext new, h4.ext new⟩
theorem CaseA.ro {m : Mem} {v : Value} {k : Cs} (h : CaseA m v k) : CaseA (roM m) v k := by
  obtain ⟨v1, v2, v3, v4, h0, h1, h2, h3, h4⟩ := h.ok
  exact ⟨v1, v2, v3, v4, h0, h1.ro, h2.ro, h3.ro, h4.ro⟩
def _root_.Go.Proofs.Ytibkaclkaigflaa.Cs.tot (k : Cs) : Int := k.need.length + k.setup.length + k.unit.length + k.hold.length
def OwnR (m : Mem) (id : Nat) (l : List Int) : Prop := m[id]? = some (rowB l)
theorem OwnR.lt {m : Mem} {id : Nat} {l : List Int} (h : OwnR m id l) : id < m.length := (List.getElem?_eq_some_iff.1 h).1
theorem OwnR.ext {m : Mem} {id : Nat} {l : List Int} (h : OwnR m id l) (new : Mem) : OwnR (m ++ new) id l := by
  unfold OwnR; rw [List.getElem?_append_left h.lt]; exact h
theorem OwnR.ints {m : Mem} {id : Nat} {l : List Int} (h : OwnR m id l) (hb : l.length ≤ 9223372036854775807) (fl : Nat) : IntsA m (.slice (some ⟨id, 0, none⟩) l.length fl) l := by
  refine IntsA.of_block hb (fun k hk => ?_) ?_
  · unfold rdc
    rw [show m[id]? = some (rowB l) from h]
    simp [hk]
  · unfold rdl
    rw [show m[id]? = some (rowB l) from h]
    simp [List.take_of_length_le]
end Go.Proofs.Ytibkaclkaigflaa.Ab
end
section
namespace Go.Proofs.Ytibkaclkaigflaa.Ab
open Go Go.RowKit Go.Proofs
set_option maxRecDepth 100000
def c_spec_DrawHorizonsOf : ACode := .seq (.reg [⟨(some 2), .alc 26 [(.slice none 0 0), (.slice none 0 0), (.slice none 0 0), (.slice none 0 0)], none⟩])
 (.seq (.reg [⟨(some 3), .mv (.tmp 0), none⟩,
  ⟨(some 4), .call (.func 19) [(.tmp 3)], none⟩,
  ⟨none, .st 4 (.tmp 2) (.tmp 4), none⟩])
 (.ret))
def r_spec_DrawHorizonsOf : List ARes := [.cell 2 (some 4)]
theorem ok_spec_DrawHorizonsOf : FnOk Try.prog 5 5 c_spec_DrawHorizonsOf r_spec_DrawHorizonsOf := ⟨⟨Try.f5, _, Try.func5, by kernel_rfl, rfl, rfl, by kernel_rfl, by kernel_rfl⟩⟩
def c_spec_DrawForwardCosts : ACode := .seq (.reg [⟨(some 2), .alc 26 [(.slice none 0 0), (.slice none 0 0), (.slice none 0 0), (.slice none 0 0)], none⟩])
 (.seq (.reg [⟨(some 4), .mv (.tmp 0), none⟩,
  ⟨(some 5), .bld [(.slice none 0 0), (.int .i64 0), (.int .u64 0)] [(0, 1, (.tmp 4))], none⟩,
  ⟨(some 6), .box 57 (.tmp 5), none⟩,
  ⟨(some 3), .mv (.tmp 6), none⟩])
 (.seq (.reg [⟨(some 7), .mv (.tmp 3), none⟩,
  ⟨(some 8), .call (.func 33) [(.tmp 7)], none⟩,
  ⟨none, .st 4 (.tmp 2) (.tmp 8), none⟩])
 (.ret)))
def r_spec_DrawForwardCosts : List ARes := [.cell 2 (some 4)]
theorem ok_spec_DrawForwardCosts : FnOk Try.prog 19 9 c_spec_DrawForwardCosts r_spec_DrawForwardCosts := ⟨⟨Try.f19, _, Try.func19, by kernel_rfl, rfl, rfl, by kernel_rfl, by kernel_rfl⟩⟩
def c_spec_l1Cur__lots : ACode := .seq (.reg [⟨(some 2), .alc 26 [(.slice none 0 0), (.slice none 0 0), (.slice none 0 0), (.slice none 0 0)], none⟩])
 (.seq (.reg [⟨(some 3), .mv (.tmp 0), none⟩,
  ⟨(some 4), .call (.func 43) [(.tmp 3), (.const (.int .i64 8))], none⟩,
  ⟨none, .st 4 (.tmp 2) (.tmp 4), none⟩])
 (.ret))
def r_spec_l1Cur__lots : List ARes := [.cell 2 (some 4)]
theorem ok_spec_l1Cur__lots : FnOk Try.prog 33 5 c_spec_l1Cur__lots r_spec_l1Cur__lots := ⟨⟨Try.f33, _, Try.func33, by kernel_rfl, rfl, rfl, by kernel_rfl, by kernel_rfl⟩⟩
def c_spec_l1Cur__someLots : ACode := .seq (.reg [⟨(some 4), .alc 26 [(.slice none 0 0), (.slice none 0 0), (.slice none 0 0), (.slice none 0 0)], none⟩])
 (.seq (.reg [⟨(some 13), .mv (.tmp 0), none⟩,
  ⟨(some 14), .bsl 3 1 8 [(.int .i64 0), (.int .i64 0), (.int .i64 0), (.int .i64 0), (.int .i64 0), (.int .i64 0), (.int .i64 0), (.int .i64 0)] [(0, 1, (.const (.int .i64 4))), (1, 1, (.const (.int .i64 5))), (2, 1, (.const (.int .i64 3))), (3, 1, (.const (.int .i64 6))), (4, 1, (.const (.int .i64 8))), (5, 1, (.const (.int .i64 2))), (6, 1, (.const (.int .i64 1))), (7, 1, (.const (.int .i64 0)))], none⟩,
  ⟨(some 15), .call (.func 55) [(.tmp 13), (.tmp 14)], none⟩,
  ⟨(some 16), .mv (.tmp 1), none⟩,
  ⟨(some 17), .call (.func 54) [(.tmp 15), (.tmp 16)], none⟩,
  ⟨(some 18), .bld [(.slice none 0 0), (.slice none 0 0), (.slice none 0 0), (.slice none 0 0)] [], none⟩,
  ⟨(some 6), .alc 26 [(.slice none 0 0), (.slice none 0 0), (.slice none 0 0), (.slice none 0 0)], none⟩,
  ⟨(some 5), .mv (.tmp 17), none⟩,
  ⟨none, .st 4 (.tmp 6) (.tmp 18), none⟩])
 (.seq (.reg [⟨(some 19), .mv (.tmp 0), none⟩,
  ⟨(some 20), .call (.func 56) [(.tmp 19), (.const (.int .i64 2))], none⟩,
  ⟨(some 7), .mv (.tmp 20), none⟩])
 (.seq (.reg [⟨(some 21), .mv (.tmp 0), none⟩,
  ⟨(some 22), .bsl 3 1 6 [(.int .i64 0), (.int .i64 0), (.int .i64 0), (.int .i64 0), (.int .i64 0), (.int .i64 0)] [(0, 1, (.const (.int .i64 0))), (1, 1, (.const (.int .i64 3))), (2, 1, (.const (.int .i64 5))), (3, 1, (.const (.int .i64 8))), (4, 1, (.const (.int .i64 12))), (5, 1, (.const (.int .i64 20)))], none⟩,
  ⟨(some 23), .call (.func 55) [(.tmp 21), (.tmp 22)], none⟩,
  ⟨(some 24), .mv (.tmp 0), none⟩,
  ⟨(some 25), .call (.func 57) [(.tmp 24), (.const (.int .i64 3))], none⟩,
  ⟨(some 26), .mv (.tmp 0), none⟩,
  ⟨(some 27), .call (.func 57) [(.tmp 26), (.const (.int .i64 2))], none⟩,
  ⟨(some 28), .bin .add (.const (.int .i64 1)) (.tmp 27), none⟩,
  ⟨(some 8), .mv (.tmp 23), none⟩,
  ⟨(some 9), .mv (.tmp 25), none⟩,
  ⟨(some 10), .mv (.tmp 28), none⟩])
 (.seq (.seq (.reg [⟨(some 11), .mv (.const (.int .i64 0)), none⟩])
 (.block 0 (.loop (.seq (.seq (.reg [⟨(some 29), .mv (.tmp 11), none⟩,
  ⟨(some 30), .mv (.tmp 5), none⟩,
  ⟨(some 31), .bin .lss (.tmp 29) (.tmp 30), none⟩])
 (.cond (.tmp 31) (.skip) (.exit 0)))
 (.seq (.block 1 (.seq (.seq (.reg [⟨(some 34), .mv (.tmp 7), none⟩,
  ⟨(some 35), .un .not (.tmp 34), none⟩])
 (.cond (.tmp 35) (.seq (.reg [⟨(some 36), .mv (.tmp 0), none⟩,
  ⟨(some 37), .bsl 3 1 6 [(.int .i64 0), (.int .i64 0), (.int .i64 0), (.int .i64 0), (.int .i64 0), (.int .i64 0)] [(0, 1, (.const (.int .i64 0))), (1, 1, (.const (.int .i64 2))), (2, 1, (.const (.int .i64 5))), (3, 1, (.const (.int .i64 9))), (4, 1, (.const (.int .i64 14))), (5, 1, (.const (.int .i64 30)))], none⟩,
  ⟨(some 38), .call (.func 55) [(.tmp 36), (.tmp 37)], none⟩,
  ⟨(some 8), .mv (.tmp 38), none⟩])
 (.seq (.reg [⟨(some 39), .mv (.tmp 0), none⟩,
  ⟨(some 40), .call (.func 57) [(.tmp 39), (.const (.int .i64 5))], none⟩,
  ⟨(some 9), .mv (.tmp 40), none⟩])
 (.reg [⟨(some 41), .mv (.tmp 0), none⟩,
  ⟨(some 42), .call (.func 57) [(.tmp 41), (.const (.int .i64 4))], none⟩,
  ⟨(some 10), .mv (.tmp 42), none⟩]))) (.skip)))
 (.seq (.seq (.reg [⟨(some 43), .fad 0 (.tmp 6), none⟩]) (.seq (.reg [⟨(some 45), .mv (.tmp 0), none⟩]) (.both (.seq (.reg [⟨(some 44), .ld none (.tmp 43), none⟩]) (.seq (.reg [⟨(some 46), .bsl 3 1 6 [(.int .i64 0), (.int .i64 0), (.int .i64 0), (.int .i64 0), (.int .i64 0), (.int .i64 0)] [(0, 1, (.const (.int .i64 0))), (1, 1, (.const (.int .i64 1))), (2, 1, (.const (.int .i64 2))), (3, 1, (.const (.int .i64 3))), (4, 1, (.const (.int .i64 5))), (5, 1, (.const (.int .i64 8)))], none⟩]) (.seq (.reg [⟨(some 47), .call (.func 55) [(.tmp 45), (.tmp 46)], none⟩]) (.seq (.reg [⟨(some 48), .bsl 3 1 1 [(.int .i64 0)] [(0, 1, (.tmp 47))], none⟩]) (.seq (.reg [⟨(some 49), .app 3 1 8 (.tmp 44) (.tmp 48), none⟩]) (.seq (.reg [⟨(some 50), .fad 0 (.tmp 6), none⟩]) (.seq (.reg [⟨none, .st 1 (.tmp 50) (.tmp 49), none⟩]) (.skip)))))))) (.seq (.reg [⟨(some 46), .bsl 3 1 6 [(.int .i64 0), (.int .i64 0), (.int .i64 0), (.int .i64 0), (.int .i64 0), (.int .i64 0)] [(0, 1, (.const (.int .i64 0))), (1, 1, (.const (.int .i64 1))), (2, 1, (.const (.int .i64 2))), (3, 1, (.const (.int .i64 3))), (4, 1, (.const (.int .i64 5))), (5, 1, (.const (.int .i64 8)))], none⟩]) (.both (.seq (.reg [⟨(some 44), .ld none (.tmp 43), none⟩]) (.seq (.reg [⟨(some 47), .call (.func 55) [(.tmp 45), (.tmp 46)], none⟩]) (.seq (.reg [⟨(some 48), .bsl 3 1 1 [(.int .i64 0)] [(0, 1, (.tmp 47))], none⟩]) (.seq (.reg [⟨(some 49), .app 3 1 8 (.tmp 44) (.tmp 48), none⟩]) (.seq (.reg [⟨(some 50), .fad 0 (.tmp 6), none⟩]) (.seq (.reg [⟨none, .st 1 (.tmp 50) (.tmp 49), none⟩]) (.skip))))))) (.seq (.reg [⟨(some 47), .call (.func 55) [(.tmp 45), (.tmp 46)], none⟩]) (.seq (.reg [⟨(some 44), .ld none (.tmp 43), none⟩]) (.seq (.reg [⟨(some 48), .bsl 3 1 1 [(.int .i64 0)] [(0, 1, (.tmp 47))], none⟩]) (.seq (.reg [⟨(some 49), .app 3 1 8 (.tmp 44) (.tmp 48), none⟩]) (.seq (.reg [⟨(some 50), .fad 0 (.tmp 6), none⟩]) (.seq (.reg [⟨none, .st 1 (.tmp 50) (.tmp 49), none⟩]) (.skip))))))))))))
 (.seq (.reg [⟨(some 51), .fad 1 (.tmp 6), none⟩,
  ⟨(some 52), .ld none (.tmp 51), none⟩,
  ⟨(some 53), .mv (.tmp 8), none⟩,
  ⟨(some 54), .bsl 3 1 1 [(.int .i64 0)] [(0, 1, (.tmp 53))], none⟩,
  ⟨(some 55), .app 3 1 8 (.tmp 52) (.tmp 54), none⟩,
  ⟨(some 56), .fad 1 (.tmp 6), none⟩,
  ⟨none, .st 1 (.tmp 56) (.tmp 55), none⟩])
 (.seq (.reg [⟨(some 57), .fad 2 (.tmp 6), none⟩,
  ⟨(some 58), .ld none (.tmp 57), none⟩,
  ⟨(some 59), .mv (.tmp 9), none⟩,
  ⟨(some 60), .bsl 3 1 1 [(.int .i64 0)] [(0, 1, (.tmp 59))], none⟩,
  ⟨(some 61), .app 3 1 8 (.tmp 58) (.tmp 60), none⟩,
  ⟨(some 62), .fad 2 (.tmp 6), none⟩,
  ⟨none, .st 1 (.tmp 62) (.tmp 61), none⟩])
 (.reg [⟨(some 63), .fad 3 (.tmp 6), none⟩,
  ⟨(some 64), .ld none (.tmp 63), none⟩,
  ⟨(some 65), .mv (.tmp 10), none⟩,
  ⟨(some 66), .bsl 3 1 1 [(.int .i64 0)] [(0, 1, (.tmp 65))], none⟩,
  ⟨(some 67), .app 3 1 8 (.tmp 64) (.tmp 66), none⟩,
  ⟨(some 68), .fad 3 (.tmp 6), none⟩,
  ⟨none, .st 1 (.tmp 68) (.tmp 67), none⟩]))))))
 (.reg [⟨(some 32), .mv (.tmp 11), none⟩,
  ⟨(some 33), .bin .add (.tmp 32) (.const (.int .i64 1)), none⟩,
  ⟨(some 11), .mv (.tmp 33), none⟩]))))))
 (.seq (.seq (.reg [⟨(some 69), .mv (.tmp 5), none⟩,
  ⟨(some 70), .bin .gtr (.tmp 69) (.const (.int .i64 0)), none⟩])
 (.cond (.tmp 70) (.seq (.reg [⟨(some 71), .mv (.tmp 0), none⟩,
  ⟨(some 72), .mv (.tmp 5), none⟩,
  ⟨(some 73), .call (.func 57) [(.tmp 71), (.tmp 72)], none⟩,
  ⟨(some 12), .mv (.tmp 73), none⟩])
 (.seq (.reg [⟨(some 74), .mv (.tmp 0), none⟩,
  ⟨(some 75), .call (.func 57) [(.tmp 74), (.const (.int .i64 60))], none⟩])
 (.block 2 (.seq (.reg [⟨(some 77), .bin .eql (.tmp 75) (.const (.int .i64 0)), none⟩,
  ⟨(some 76), .mv (.tmp 77), none⟩])
 (.cond (.tmp 76) (.seq (.reg [⟨(some 78), .fad 0 (.tmp 6), none⟩]) (.seq (.reg [⟨(some 80), .mv (.tmp 12), none⟩]) (.seq (.reg [⟨(some 81), .mv (.tmp 0), none⟩]) (.both (.seq (.reg [⟨(some 79), .ld none (.tmp 78), none⟩]) (.seq (.reg [⟨(some 82), .bsl 3 1 4 [(.int .i64 0), (.int .i64 0), (.int .i64 0), (.int .i64 0)] [(0, 1, (.const (.int .i64 (-1)))), (1, 1, (.const (.int .i64 20))), (2, 1, (.const (.int .i64 21))), (3, 1, (.const (.int .i64 4611686018427387904)))], none⟩]) (.seq (.reg [⟨(some 83), .call (.func 55) [(.tmp 81), (.tmp 82)], none⟩]) (.seq (.reg [⟨(some 84), .iad 1 (.tmp 79) (.tmp 80), none⟩]) (.seq (.reg [⟨none, .st 1 (.tmp 84) (.tmp 83), none⟩]) (.skip)))))) (.seq (.reg [⟨(some 82), .bsl 3 1 4 [(.int .i64 0), (.int .i64 0), (.int .i64 0), (.int .i64 0)] [(0, 1, (.const (.int .i64 (-1)))), (1, 1, (.const (.int .i64 20))), (2, 1, (.const (.int .i64 21))), (3, 1, (.const (.int .i64 4611686018427387904)))], none⟩]) (.both (.seq (.reg [⟨(some 79), .ld none (.tmp 78), none⟩]) (.seq (.reg [⟨(some 83), .call (.func 55) [(.tmp 81), (.tmp 82)], none⟩]) (.seq (.reg [⟨(some 84), .iad 1 (.tmp 79) (.tmp 80), none⟩]) (.seq (.reg [⟨none, .st 1 (.tmp 84) (.tmp 83), none⟩]) (.skip))))) (.seq (.reg [⟨(some 83), .call (.func 55) [(.tmp 81), (.tmp 82)], none⟩]) (.seq (.reg [⟨(some 79), .ld none (.tmp 78), none⟩]) (.seq (.reg [⟨(some 84), .iad 1 (.tmp 79) (.tmp 80), none⟩]) (.seq (.reg [⟨none, .st 1 (.tmp 84) (.tmp 83), none⟩]) (.skip))))))))))) (.seq (.reg [⟨(some 86), .bin .eql (.tmp 75) (.const (.int .i64 1)), none⟩,
  ⟨(some 85), .mv (.tmp 86), none⟩])
 (.cond (.tmp 85) (.seq (.reg [⟨(some 87), .fad 1 (.tmp 6), none⟩]) (.seq (.reg [⟨(some 89), .mv (.tmp 12), none⟩]) (.seq (.reg [⟨(some 90), .mv (.tmp 0), none⟩]) (.both (.seq (.reg [⟨(some 88), .ld none (.tmp 87), none⟩]) (.seq (.reg [⟨(some 91), .bsl 3 1 3 [(.int .i64 0), (.int .i64 0), (.int .i64 0)] [(0, 1, (.const (.int .i64 (-1)))), (1, 1, (.const (.int .i64 99))), (2, 1, (.const (.int .i64 100)))], none⟩]) (.seq (.reg [⟨(some 92), .call (.func 55) [(.tmp 90), (.tmp 91)], none⟩]) (.seq (.reg [⟨(some 93), .iad 1 (.tmp 88) (.tmp 89), none⟩]) (.seq (.reg [⟨none, .st 1 (.tmp 93) (.tmp 92), none⟩]) (.skip)))))) (.seq (.reg [⟨(some 91), .bsl 3 1 3 [(.int .i64 0), (.int .i64 0), (.int .i64 0)] [(0, 1, (.const (.int .i64 (-1)))), (1, 1, (.const (.int .i64 99))), (2, 1, (.const (.int .i64 100)))], none⟩]) (.both (.seq (.reg [⟨(some 88), .ld none (.tmp 87), none⟩]) (.seq (.reg [⟨(some 92), .call (.func 55) [(.tmp 90), (.tmp 91)], none⟩]) (.seq (.reg [⟨(some 93), .iad 1 (.tmp 88) (.tmp 89), none⟩]) (.seq (.reg [⟨none, .st 1 (.tmp 93) (.tmp 92), none⟩]) (.skip))))) (.seq (.reg [⟨(some 92), .call (.func 55) [(.tmp 90), (.tmp 91)], none⟩]) (.seq (.reg [⟨(some 88), .ld none (.tmp 87), none⟩]) (.seq (.reg [⟨(some 93), .iad 1 (.tmp 88) (.tmp 89), none⟩]) (.seq (.reg [⟨none, .st 1 (.tmp 93) (.tmp 92), none⟩]) (.skip))))))))))) (.seq (.reg [⟨(some 95), .bin .eql (.tmp 75) (.const (.int .i64 2)), none⟩,
  ⟨(some 94), .mv (.tmp 95), none⟩])
 (.cond (.tmp 94) (.seq (.reg [⟨(some 96), .fad 2 (.tmp 6), none⟩]) (.seq (.reg [⟨(some 98), .mv (.tmp 12), none⟩]) (.seq (.reg [⟨(some 99), .mv (.tmp 0), none⟩]) (.both (.seq (.reg [⟨(some 97), .ld none (.tmp 96), none⟩]) (.seq (.reg [⟨(some 100), .bsl 3 1 3 [(.int .i64 0), (.int .i64 0), (.int .i64 0)] [(0, 1, (.const (.int .i64 (-1)))), (1, 1, (.const (.int .i64 9))), (2, 1, (.const (.int .i64 10)))], none⟩]) (.seq (.reg [⟨(some 101), .call (.func 55) [(.tmp 99), (.tmp 100)], none⟩]) (.seq (.reg [⟨(some 102), .iad 1 (.tmp 97) (.tmp 98), none⟩]) (.seq (.reg [⟨none, .st 1 (.tmp 102) (.tmp 101), none⟩]) (.skip)))))) (.seq (.reg [⟨(some 100), .bsl 3 1 3 [(.int .i64 0), (.int .i64 0), (.int .i64 0)] [(0, 1, (.const (.int .i64 (-1)))), (1, 1, (.const (.int .i64 9))), (2, 1, (.const (.int .i64 10)))], none⟩]) (.both (.seq (.reg [⟨(some 97), .ld none (.tmp 96), none⟩]) (.seq (.reg [⟨(some 101), .call (.func 55) [(.tmp 99), (.tmp 100)], none⟩]) (.seq (.reg [⟨(some 102), .iad 1 (.tmp 97) (.tmp 98), none⟩]) (.seq (.reg [⟨none, .st 1 (.tmp 102) (.tmp 101), none⟩]) (.skip))))) (.seq (.reg [⟨(some 101), .call (.func 55) [(.tmp 99), (.tmp 100)], none⟩]) (.seq (.reg [⟨(some 97), .ld none (.tmp 96), none⟩]) (.seq (.reg [⟨(some 102), .iad 1 (.tmp 97) (.tmp 98), none⟩]) (.seq (.reg [⟨none, .st 1 (.tmp 102) (.tmp 101), none⟩]) (.skip))))))))))) (.seq (.reg [⟨(some 104), .bin .eql (.tmp 75) (.const (.int .i64 3)), none⟩,
  ⟨(some 103), .mv (.tmp 104), none⟩])
 (.cond (.tmp 103) (.seq (.reg [⟨(some 105), .fad 3 (.tmp 6), none⟩]) (.seq (.reg [⟨(some 107), .mv (.tmp 12), none⟩]) (.seq (.reg [⟨(some 108), .mv (.tmp 0), none⟩]) (.both (.seq (.reg [⟨(some 106), .ld none (.tmp 105), none⟩]) (.seq (.reg [⟨(some 109), .bsl 3 1 3 [(.int .i64 0), (.int .i64 0), (.int .i64 0)] [(0, 1, (.const (.int .i64 (-1)))), (1, 1, (.const (.int .i64 9))), (2, 1, (.const (.int .i64 10)))], none⟩]) (.seq (.reg [⟨(some 110), .call (.func 55) [(.tmp 108), (.tmp 109)], none⟩]) (.seq (.reg [⟨(some 111), .iad 1 (.tmp 106) (.tmp 107), none⟩]) (.seq (.reg [⟨none, .st 1 (.tmp 111) (.tmp 110), none⟩]) (.skip)))))) (.seq (.reg [⟨(some 109), .bsl 3 1 3 [(.int .i64 0), (.int .i64 0), (.int .i64 0)] [(0, 1, (.const (.int .i64 (-1)))), (1, 1, (.const (.int .i64 9))), (2, 1, (.const (.int .i64 10)))], none⟩]) (.both (.seq (.reg [⟨(some 106), .ld none (.tmp 105), none⟩]) (.seq (.reg [⟨(some 110), .call (.func 55) [(.tmp 108), (.tmp 109)], none⟩]) (.seq (.reg [⟨(some 111), .iad 1 (.tmp 106) (.tmp 107), none⟩]) (.seq (.reg [⟨none, .st 1 (.tmp 111) (.tmp 110), none⟩]) (.skip))))) (.seq (.reg [⟨(some 110), .call (.func 55) [(.tmp 108), (.tmp 109)], none⟩]) (.seq (.reg [⟨(some 106), .ld none (.tmp 105), none⟩]) (.seq (.reg [⟨(some 111), .iad 1 (.tmp 106) (.tmp 107), none⟩]) (.seq (.reg [⟨none, .st 1 (.tmp 111) (.tmp 110), none⟩]) (.skip))))))))))) (.seq (.reg [⟨(some 113), .bin .eql (.tmp 75) (.const (.int .i64 4)), none⟩,
  ⟨(some 112), .mv (.tmp 113), none⟩])
 (.cond (.tmp 112) (.reg [⟨(some 114), .fad 2 (.tmp 6), none⟩,
  ⟨(some 115), .ld none (.tmp 114), none⟩,
  ⟨(some 116), .bsl 3 1 1 [(.int .i64 0)] [(0, 1, (.const (.int .i64 1)))], none⟩,
  ⟨(some 117), .app 3 1 8 (.tmp 115) (.tmp 116), none⟩,
  ⟨(some 118), .fad 2 (.tmp 6), none⟩,
  ⟨none, .st 1 (.tmp 118) (.tmp 117), none⟩]) (.seq (.reg [⟨(some 120), .bin .eql (.tmp 75) (.const (.int .i64 5)), none⟩,
  ⟨(some 119), .mv (.tmp 120), none⟩])
 (.cond (.tmp 119) (.block 3 (.loop (.seq (.seq (.reg [⟨(some 121), .fad 0 (.tmp 6), none⟩,
  ⟨(some 122), .ld none (.tmp 121), none⟩,
  ⟨(some 123), .len (.tmp 122), none⟩,
  ⟨(some 124), .bin .lss (.tmp 123) (.const (.int .i64 9)), none⟩])
 (.cond (.tmp 124) (.skip) (.exit 3)))
 (.block 4 (.seq (.reg [⟨(some 125), .fad 0 (.tmp 6), none⟩,
  ⟨(some 126), .ld none (.tmp 125), none⟩,
  ⟨(some 127), .bsl 3 1 1 [(.int .i64 0)] [(0, 1, (.const (.int .i64 1)))], none⟩,
  ⟨(some 128), .app 3 1 8 (.tmp 126) (.tmp 127), none⟩,
  ⟨(some 129), .fad 0 (.tmp 6), none⟩,
  ⟨none, .st 1 (.tmp 129) (.tmp 128), none⟩])
 (.seq (.reg [⟨(some 130), .fad 1 (.tmp 6), none⟩,
  ⟨(some 131), .ld none (.tmp 130), none⟩,
  ⟨(some 132), .bsl 3 1 1 [(.int .i64 0)] [(0, 1, (.const (.int .i64 1)))], none⟩,
  ⟨(some 133), .app 3 1 8 (.tmp 131) (.tmp 132), none⟩,
  ⟨(some 134), .fad 1 (.tmp 6), none⟩,
  ⟨none, .st 1 (.tmp 134) (.tmp 133), none⟩])
 (.seq (.reg [⟨(some 135), .fad 2 (.tmp 6), none⟩,
  ⟨(some 136), .ld none (.tmp 135), none⟩,
  ⟨(some 137), .bsl 3 1 1 [(.int .i64 0)] [(0, 1, (.const (.int .i64 1)))], none⟩,
  ⟨(some 138), .app 3 1 8 (.tmp 136) (.tmp 137), none⟩,
  ⟨(some 139), .fad 2 (.tmp 6), none⟩,
  ⟨none, .st 1 (.tmp 139) (.tmp 138), none⟩])
 (.reg [⟨(some 140), .fad 3 (.tmp 6), none⟩,
  ⟨(some 141), .ld none (.tmp 140), none⟩,
  ⟨(some 142), .bsl 3 1 1 [(.int .i64 0)] [(0, 1, (.const (.int .i64 1)))], none⟩,
  ⟨(some 143), .app 3 1 8 (.tmp 141) (.tmp 142), none⟩,
  ⟨(some 144), .fad 3 (.tmp 6), none⟩,
  ⟨none, .st 1 (.tmp 144) (.tmp 143), none⟩])))))))) (.skip)))))))))))))))) (.skip)))
 (.seq (.reg [⟨(some 145), .ld (some 4) (.tmp 6), none⟩,
  ⟨none, .st 4 (.tmp 4) (.tmp 145), none⟩])
 (.ret)))))))
def r_spec_l1Cur__someLots : List ARes := [.cell 4 (some 4)]
theorem ok_spec_l1Cur__someLots : FnOk Try.prog 43 146 c_spec_l1Cur__someLots r_spec_l1Cur__someLots := ⟨⟨Try.f43, _, Try.func43, by kernel_rfl, rfl, rfl, by kernel_rfl, by kernel_rfl⟩⟩
def c_spec_l1Cur__among : ACode := .seq (.reg [⟨(some 4), .mv (.const (.int .i64 0)), none⟩])
 (.seq (.reg [⟨(some 5), .mv (.tmp 1), none⟩,
  ⟨(some 6), .mv (.tmp 0), none⟩,
  ⟨(some 7), .mv (.tmp 1), none⟩,
  ⟨(some 8), .len (.tmp 7), none⟩,
  ⟨(some 9), .call (.func 57) [(.tmp 6), (.tmp 8)], none⟩,
  ⟨(some 10), .iad 1 (.tmp 5) (.tmp 9), none⟩,
  ⟨(some 11), .ld none (.tmp 10), none⟩,
  ⟨(some 4), .mv (.tmp 11), none⟩])
 (.ret))
def r_spec_l1Cur__among : List ARes := [.tmp 4]
theorem ok_spec_l1Cur__among : FnOk Try.prog 55 12 c_spec_l1Cur__among r_spec_l1Cur__among := ⟨⟨Try.f55, _, Try.func55, by kernel_rfl, rfl, rfl, by kernel_rfl, by kernel_rfl⟩⟩
def c_spec_l1Cur__one : ACode := .seq (.reg [⟨(some 4), .mv (.const (.bool false)), none⟩])
 (.seq (.reg [⟨(some 5), .mv (.tmp 0), none⟩,
  ⟨(some 6), .mv (.tmp 1), none⟩,
  ⟨(some 7), .call (.func 57) [(.tmp 5), (.tmp 6)], none⟩,
  ⟨(some 8), .bin .eql (.tmp 7) (.const (.int .i64 0)), none⟩,
  ⟨(some 4), .mv (.tmp 8), none⟩])
 (.ret))
def r_spec_l1Cur__one : List ARes := [.tmp 4]
theorem ok_spec_l1Cur__one : FnOk Try.prog 56 9 c_spec_l1Cur__one r_spec_l1Cur__one := ⟨⟨Try.f56, _, Try.func56, by kernel_rfl, rfl, rfl, by kernel_rfl, by kernel_rfl⟩⟩
def c_spec_l1Cur__pick : ACode := .seq (.reg [⟨(some 4), .mv (.const (.int .i64 0)), none⟩])
 (.seq (.seq (.reg [⟨(some 6), .mv (.tmp 1), none⟩,
  ⟨(some 7), .bin .leq (.tmp 6) (.const (.int .i64 1)), none⟩])
 (.cond (.tmp 7) (.seq (.reg [⟨(some 4), .mv (.const (.int .i64 0)), none⟩])
 (.ret)) (.skip)))
 (.seq (.reg [⟨(some 8), .mv (.tmp 0), none⟩,
  ⟨(some 9), .call (.func 62) [(.tmp 8)], none⟩,
  ⟨(some 5), .mv (.tmp 9), none⟩])
 (.seq (.seq (.reg [⟨(some 10), .mv (.tmp 1), none⟩,
  ⟨(some 11), .bin .gtr (.tmp 10) (.const (.int .i64 200)), none⟩])
 (.cond (.tmp 11) (.reg [⟨(some 12), .mv (.tmp 5), none⟩,
  ⟨(some 13), .bin .mul (.tmp 12) (.const (.int .i64 256)), none⟩,
  ⟨(some 14), .mv (.tmp 0), none⟩,
  ⟨(some 15), .call (.func 62) [(.tmp 14)], none⟩,
  ⟨(some 16), .bin .add (.tmp 13) (.tmp 15), none⟩,
  ⟨(some 5), .mv (.tmp 16), none⟩]) (.skip)))
 (.seq (.reg [⟨(some 17), .mv (.tmp 5), none⟩,
  ⟨(some 18), .mv (.tmp 1), none⟩,
  ⟨(some 19), .bin .rem (.tmp 17) (.tmp 18), none⟩,
  ⟨(some 4), .mv (.tmp 19), none⟩])
 (.ret)))))
def r_spec_l1Cur__pick : List ARes := [.tmp 4]
theorem ok_spec_l1Cur__pick : FnOk Try.prog 57 20 c_spec_l1Cur__pick r_spec_l1Cur__pick := ⟨⟨Try.f57, _, Try.func57, by kernel_rfl, rfl, rfl, by kernel_rfl, by kernel_rfl⟩⟩
def c_spec_l1Cur__next : ACode := .seq (.reg [⟨(some 2), .mv (.const (.int .i64 0)), none⟩])
 (.seq (.reg [⟨(some 3), .mv (.const (.int .i64 0)), none⟩])
 (.seq (.seq (.reg [⟨(some 4), .mv (.tmp 0), none⟩,
  ⟨(some 5), .nilc (.tmp 4), none⟩,
  ⟨(some 6), .fad 1 (.tmp 5), none⟩,
  ⟨(some 7), .ld none (.tmp 6), none⟩,
  ⟨(some 8), .mv (.tmp 0), none⟩,
  ⟨(some 9), .nilc (.tmp 8), none⟩,
  ⟨(some 10), .fad 0 (.tmp 9), none⟩,
  ⟨(some 11), .ld none (.tmp 10), none⟩,
  ⟨(some 12), .len (.tmp 11), none⟩,
  ⟨(some 13), .bin .lss (.tmp 7) (.tmp 12), none⟩])
 (.cond (.tmp 13) (.reg [⟨(some 14), .mv (.tmp 0), none⟩,
  ⟨(some 15), .nilc (.tmp 14), none⟩,
  ⟨(some 16), .fad 0 (.tmp 15), none⟩,
  ⟨(some 17), .ld none (.tmp 16), none⟩,
  ⟨(some 18), .mv (.tmp 0), none⟩,
  ⟨(some 19), .nilc (.tmp 18), none⟩,
  ⟨(some 20), .fad 1 (.tmp 19), none⟩,
  ⟨(some 21), .ld none (.tmp 20), none⟩,
  ⟨(some 22), .iad 1 (.tmp 17) (.tmp 21), none⟩,
  ⟨(some 23), .ld none (.tmp 22), none⟩,
  ⟨(some 24), .conv .i64 (.tmp 23), none⟩,
  ⟨(some 3), .mv (.tmp 24), none⟩]) (.skip)))
 (.seq (.reg [⟨(some 25), .mv (.tmp 0), none⟩,
  ⟨(some 26), .nilc (.tmp 25), none⟩,
  ⟨(some 27), .fad 1 (.tmp 26), none⟩,
  ⟨(some 28), .ld none (.tmp 27), none⟩,
  ⟨(some 29), .bin .add (.tmp 28) (.const (.int .i64 1)), none⟩,
  ⟨(some 30), .nilc (.tmp 25), none⟩,
  ⟨(some 31), .fad 1 (.tmp 30), none⟩,
  ⟨none, .st 1 (.tmp 31) (.tmp 29), none⟩])
 (.seq (.reg [⟨(some 32), .mv (.tmp 0), none⟩,
  ⟨(some 33), .mv (.tmp 0), none⟩,
  ⟨(some 34), .nilc (.tmp 33), none⟩,
  ⟨(some 35), .fad 2 (.tmp 34), none⟩,
  ⟨(some 36), .ld none (.tmp 35), none⟩,
  ⟨(some 37), .bin .mul (.tmp 36) (.const (.int .u64 6364136223846793005)), none⟩,
  ⟨(some 38), .mv (.tmp 3), none⟩,
  ⟨(some 39), .conv .u64 (.tmp 38), none⟩,
  ⟨(some 40), .bin .add (.tmp 37) (.tmp 39), none⟩,
  ⟨(some 41), .bin .add (.tmp 40) (.const (.int .u64 462197)), none⟩,
  ⟨(some 42), .nilc (.tmp 32), none⟩,
  ⟨(some 43), .fad 2 (.tmp 42), none⟩,
  ⟨none, .st 1 (.tmp 43) (.tmp 41), none⟩])
 (.seq (.seq (.reg [⟨(some 44), .mv (.tmp 0), none⟩,
  ⟨(some 45), .nilc (.tmp 44), none⟩,
  ⟨(some 46), .fad 1 (.tmp 45), none⟩,
  ⟨(some 47), .ld none (.tmp 46), none⟩,
  ⟨(some 48), .mv (.tmp 0), none⟩,
  ⟨(some 49), .nilc (.tmp 48), none⟩,
  ⟨(some 50), .fad 0 (.tmp 49), none⟩,
  ⟨(some 51), .ld none (.tmp 50), none⟩,
  ⟨(some 52), .len (.tmp 51), none⟩,
  ⟨(some 53), .bin .leq (.tmp 47) (.tmp 52), none⟩])
 (.cond (.tmp 53) (.seq (.reg [⟨(some 54), .mv (.tmp 3), none⟩,
  ⟨(some 2), .mv (.tmp 54), none⟩])
 (.ret)) (.skip)))
 (.seq (.reg [⟨(some 55), .mv (.tmp 0), none⟩,
  ⟨(some 56), .nilc (.tmp 55), none⟩,
  ⟨(some 57), .fad 2 (.tmp 56), none⟩,
  ⟨(some 58), .ld none (.tmp 57), none⟩,
  ⟨(some 59), .bin .shr (.tmp 58) (.const (.int .u64 40)), none⟩,
  ⟨(some 60), .bin .and (.tmp 59) (.const (.int .u64 255)), none⟩,
  ⟨(some 61), .conv .i64 (.tmp 60), none⟩,
  ⟨(some 2), .mv (.tmp 61), none⟩])
 (.ret)))))))
def r_spec_l1Cur__next : List ARes := [.tmp 2]
theorem ok_spec_l1Cur__next : FnOk Try.prog 62 62 c_spec_l1Cur__next r_spec_l1Cur__next := ⟨⟨Try.f62, _, Try.func62, by kernel_rfl, rfl, rfl, by kernel_rfl, by kernel_rfl⟩⟩
end Go.Proofs.Ytibkaclkaigflaa.Ab
end
section
namespace Go.Proofs.Ytibkaclkaigflaa.Ab
open Go Go.RowKit
set_option linter.unusedVariables false
set_option linter.unusedSimpArgs false
structure CurA (M : Mem) (cb : Nat) (l : List Int) (id : Nat) (at_ : Nat) : Prop where
  code : M[cb]? = some ⟨.ro, 5, l.map (Value.int .u8)⟩
  byte : ∀ x ∈ l, 0 ≤ x ∧ x ≤ 255
  few : l.length ≤ 65536
  box : ∃ seed : Nat × Int, M[id]? = some ⟨.own, 57, [.slice (some ⟨cb, 0, none⟩) l.length seed.1, .int .i64 (at_ : Int), .int .u64 seed.2]⟩
structure Cw (id : Nat) (m M : Mem) : Prop where
  len : m.length ≤ M.length
  old : ∀ i, i ≠ id → i < m.length → M[i]? = m[i]?
  new : ∀ (i : Nat) (b : Blk), m.length ≤ i → M[i]? = some b → b.kd ≠ .ro
theorem Cw.refl (id : Nat) (m : Mem) : Cw id m m := ⟨Nat.le_refl _, fun _ _ _ => rfl, fun i b h1 h2 => by rw [List.getElem?_eq_none h1] at h2; cases h2⟩
theorem Cw.set (id : Nat) (m : Mem) (b : Blk) : Cw id m (m.set id b) :=
  ⟨by simp, fun i h _ => List.getElem?_set_ne (Ne.symm h), fun i b h1 h2 => by rw [List.getElem?_eq_none (by simpa using h1)] at h2; cases h2⟩
theorem Cw.trans {id : Nat} {A B C : Mem} (hid : id < A.length) (h : Cw id A B) (h' : Cw id B C) : Cw id A C :=
  ⟨Nat.le_trans h.len h'.len, fun i h1 h2 => (h'.old i h1 (Nat.lt_of_lt_of_le h2 h.len)).trans (h.old i h1 h2), fun i b h1 h2 => by
    by_cases hb : B.length ≤ i
    · exact h'.new i b hb h2
    · by_cases e : i = id
      · exact absurd e (fun e => by omega)
      · rw [h'.old i e (by omega)] at h2; exact h.new i b h1 h2⟩
theorem nilcC (a : Addr) : nilcA (.pointer (some a)) = some (.pointer (some a)) := rfl
theorem and255A (x : Int) : 0 ≤ IntKind.i64.wrap (IntKind.u64.wrap ((BitVec.ofInt IntKind.u64.bits x &&& BitVec.ofInt IntKind.u64.bits 255).toNat : Int)) ∧ IntKind.i64.wrap (IntKind.u64.wrap ((BitVec.ofInt IntKind.u64.bits x &&& BitVec.ofInt IntKind.u64.bits 255).toNat : Int)) ≤ 255 := by
  obtain ⟨y, hy⟩ : ∃ y, y = (BitVec.ofInt IntKind.u64.bits x &&& BitVec.ofInt IntKind.u64.bits 255).toNat := ⟨_, rfl⟩
  have hle : y ≤ 255 := by
    rw [hy, BitVec.toNat_and]
    refine Nat.le_trans Nat.and_le_right ?_
    decide
  rw [← hy]
  have e1 : IntKind.u64.wrap (y : Int) = (y : Int) := by
    rw [IntKind.wrap_u64]
    omega
  rw [e1, w64 ⟨by omega, by omega⟩]
  omega
abbrev curB (cb n fl : Nat) (a : Int) (seed : Int) : Blk := ⟨.own, 57, [.slice (some ⟨cb, 0, none⟩) n fl, .int .i64 a, .int .u64 seed]⟩
theorem cur_rd {M : Mem} {id cb n fl : Nat} {a seed : Int} (hb : M[id]? = some (curB cb n fl a seed)) : rdc M id 0 = some (.slice (some ⟨cb, 0, none⟩) n fl) ∧ rdc M id 1 = some (.int .i64 a) ∧ rdc M id 2 = some (.int .u64 seed) := by
  refine ⟨?_, ?_, ?_⟩ <;> (unfold rdc; rw [hb]; rfl)
theorem cur_set {M : Mem} {id cb n fl : Nat} {a seed : Int} (hb : M[id]? = some (curB cb n fl a seed)) (a' seed' : Int) : (M.set id (curB cb n fl a' seed'))[id]? = some (curB cb n fl a' seed') := by
  rw [List.getElem?_set_self (List.getElem?_eq_some_iff.1 hb).1]
theorem next_ac (M : Mem) (cb id at_ : Nat) (l : List Int) (h : CurA M cb l id at_) (ha : at_ ≤ 1000000000) :
    AC Try.prog 62 [.pointer (some ⟨id, 0, none⟩)] M fun r M' => ∃ x : Int, r = .int .i64 x ∧ 0 ≤ x ∧ x ≤ 255 ∧ Cw id M M' ∧ CurA M' cb l id (at_ + 1) := by
  refine ac_of_run mixed ok_spec_l1Cur__next (by simp) (go_start _ _ _ ?_)
  obtain ⟨⟨fl, seed⟩, hb⟩ := h.box
  obtain ⟨r0, r1, r2⟩ := cur_rd hb
  have st1 : stA M id 1 [.int .i64 ((at_ : Int) + 1)] = some (M.set id (curB cb l.length fl ((at_ : Int) + 1) seed)) := stA_at hb (by simp) rfl
  have hb1 := cur_set hb ((at_ : Int) + 1) seed
  obtain ⟨M1, hM1⟩ : ∃ M1, M1 = M.set id (curB cb l.length fl ((at_ : Int) + 1) seed) := ⟨_, rfl⟩
  rw [← hM1] at st1 hb1
  obtain ⟨p0, p1, p2⟩ := cur_rd hb1
  have st2 : ∀ E : Int, stA M1 id 2 [.int .u64 E] = some (M1.set id (curB cb l.length fl ((at_ : Int) + 1) E)) := fun E => stA_at hb1 (by simp) rfl
  have s0 : ∀ E : Int, rdc (M1.set id (curB cb l.length fl ((at_ : Int) + 1) E)) id 0 = some (.slice (some ⟨cb, 0, none⟩) l.length fl) := fun E => (cur_rd (cur_set hb1 _ E)).1
  have s1 : ∀ E : Int, rdc (M1.set id (curB cb l.length fl ((at_ : Int) + 1) E)) id 1 = some (.int .i64 ((at_ : Int) + 1)) := fun E => (cur_rd (cur_set hb1 _ E)).2.1
  have s2 : ∀ E : Int, rdc (M1.set id (curB cb l.length fl ((at_ : Int) + 1) E)) id 2 = some (.int .u64 E) := fun E => (cur_rd (cur_set hb1 _ E)).2.2
  have hne : cb ≠ id := fun e => by have := h.code; rw [e, hb] at this; cases this
  have fin : ∀ E : Int, Cw id M (M1.set id (curB cb l.length fl ((at_ : Int) + 1) E)) ∧ CurA (M1.set id (curB cb l.length fl ((at_ : Int) + 1) E)) cb l id (at_ + 1) := fun E => by
    rw [hM1, List.set_set]
    refine ⟨Cw.set _ _ _, ⟨by rw [List.getElem?_set_ne (Ne.symm hne)]; exact h.code, h.byte, h.few, (fl, E), ?_⟩⟩
    rw [List.getElem?_set_self (List.getElem?_eq_some_iff.1 hb).1]
    simp
  by_cases hlt : (at_ : Int) < l.length
  · have ia : iadA 1 (.slice (some ⟨cb, 0, none⟩) l.length fl) (.int .i64 (at_ : Int)) = some (.pointer (some ⟨cb, at_, none⟩)) := by
      have := iadA_in (id := cb) (off := 0) (n := l.length) (fl := fl) (sz := 1) (k := .i64) (j := at_) (by omega)
      simpa using this
    have hx := h.byte (l.getD at_ 0) (by rw [List.getD_eq_getElem?_getD, List.getElem?_eq_getElem (by omega)]; exact List.getElem_mem _)
    have rx : rdc M cb at_ = some (.int .u8 (l.getD at_ 0)) := by
      unfold rdc
      rw [h.code]
      simp [List.getD_eq_getElem?_getD, List.getElem?_eq_getElem (show at_ < l.length by omega)]
    have hle : (at_ : Int) + 1 ≤ l.length := by omega
    have w1 : IntKind.i64.wrap (l.getD at_ 0) = l.getD at_ 0 := w64 ⟨by omega, by omega⟩
    simp (config := {implicitDefEqProofs := false, maxDischargeDepth := 20}) (disch := first | omega | (simp only [lenE]; done) | (simp only [lenE]; omega) | rfl | (simp only [lenE, markR_len]; done) | (simp only [lenE, markR_len]; omega)) only [runE, mapE, listE, initT_5, initT_6, initT_7, initT_8, resV, oneV, binA, unA, reduceCtorEq, Nat.reduceEqDiff, Nat.reduceAdd, Nat.reduceLT, Nat.reduceLeDiff, Nat.reduceMul, Nat.reduceSub, ↓reduceIte, decide_true, decide_false, Bool.true_eq_false, Bool.false_eq_true, Bool.not_true, Bool.not_false, if_true, if_false, and_true, true_and, memE, celE, w64, Nat.zero_add, Nat.add_zero, Nat.mul_one, putL, and_self, ldn, c_spec_l1Cur__next, r_spec_l1Cur__next, nilcC, r0, r1, r2, hlt, ia, rx, st1, p0, p1, p2, st2, s0, s1, s2, hle, w1]
    exact ⟨_, rfl, hx.1, hx.2, fin _⟩
  · have hle : ¬ ((at_ : Int) + 1 ≤ l.length) := by omega
    have h40 : ¬ ((40 : Int) < 0) := by decide
    simp (config := {implicitDefEqProofs := false, maxDischargeDepth := 20}) (disch := first | omega | (simp only [lenE]; done) | (simp only [lenE]; omega) | rfl | (simp only [lenE, markR_len]; done) | (simp only [lenE, markR_len]; omega)) only [runE, mapE, listE, initT_5, initT_6, initT_7, initT_8, resV, oneV, binA, unA, reduceCtorEq, Nat.reduceEqDiff, Nat.reduceAdd, Nat.reduceLT, Nat.reduceLeDiff, Nat.reduceMul, Nat.reduceSub, ↓reduceIte, decide_true, decide_false, Bool.true_eq_false, Bool.false_eq_true, Bool.not_true, Bool.not_false, if_true, if_false, and_true, true_and, memE, celE, w64, Nat.zero_add, Nat.add_zero, Nat.mul_one, putL, and_self, ldn, c_spec_l1Cur__next, r_spec_l1Cur__next, nilcC, r0, r1, r2, hlt, st1, p0, p1, p2, st2, s0, s1, s2, hle, h40]
    exact ⟨_, rfl, (and255A _).1, (and255A _).2, fin _⟩
theorem CurA.lt {M : Mem} {cb id a : Nat} {l : List Int} (h : CurA M cb l id a) : id < M.length := by
  obtain ⟨seed, hb⟩ := h.box
  exact (List.getElem?_eq_some_iff.1 hb).1
theorem pick_ac (M : Mem) (cb id a : Nat) (l : List Int) (n : Int) (h : CurA M cb l id a) (ha : a ≤ 999999998) (h1 : 1 ≤ n) (h2 : n ≤ 65536) :
    AC Try.prog 57 [.pointer (some ⟨id, 0, none⟩), .int .i64 n] M fun r M' => ∃ x : Int, r = .int .i64 x ∧ 0 ≤ x ∧ x < n ∧ Cw id M M' ∧ ∃ a', a' ≤ a + 2 ∧ CurA M' cb l id a' := by
  refine ac_of_run mixed ok_spec_l1Cur__pick (by simp) (go_start _ _ _ ?_)
  by_cases hn : n ≤ 1
  · simp (config := {implicitDefEqProofs := false, maxDischargeDepth := 20}) (disch := first | omega | (simp only [lenE]; done) | (simp only [lenE]; omega) | rfl | (simp only [lenE, markR_len]; done) | (simp only [lenE, markR_len]; omega)) only [runE, mapE, listE, initT_5, initT_6, initT_7, initT_8, resV, oneV, binA, unA, reduceCtorEq, Nat.reduceEqDiff, Nat.reduceAdd, Nat.reduceLT, Nat.reduceLeDiff, Nat.reduceMul, Nat.reduceSub, ↓reduceIte, decide_true, decide_false, Bool.true_eq_false, Bool.false_eq_true, Bool.not_true, Bool.not_false, if_true, if_false, and_true, true_and, memE, celE, w64, Nat.zero_add, Nat.add_zero, Nat.mul_one, putL, and_self, ldn, c_spec_l1Cur__pick, r_spec_l1Cur__pick, hn]
    exact ⟨0, rfl, by omega, by omega, Cw.refl _ _, a, by omega, h⟩
  · simp (config := {implicitDefEqProofs := false, maxDischargeDepth := 20}) (disch := first | omega | (simp only [lenE]; done) | (simp only [lenE]; omega) | rfl | (simp only [lenE, markR_len]; done) | (simp only [lenE, markR_len]; omega)) only [runE, mapE, listE, initT_5, initT_6, initT_7, initT_8, resV, oneV, binA, unA, reduceCtorEq, Nat.reduceEqDiff, Nat.reduceAdd, Nat.reduceLT, Nat.reduceLeDiff, Nat.reduceMul, Nat.reduceSub, ↓reduceIte, decide_true, decide_false, Bool.true_eq_false, Bool.false_eq_true, Bool.not_true, Bool.not_false, if_true, if_false, and_true, true_and, memE, celE, w64, Nat.zero_add, Nat.add_zero, Nat.mul_one, putL, and_self, ldn, c_spec_l1Cur__pick, r_spec_l1Cur__pick, hn]
    refine callH_ac (next_ac M cb id a l h (by omega)) ?_
    rintro r M1 ⟨x, rfl, x0, x1, w1, k1⟩
    have hn0 : ¬ (n = 0) := by omega
    by_cases hb : n > 200
    · simp (config := {implicitDefEqProofs := false, maxDischargeDepth := 20}) (disch := first | omega | (simp only [lenE]; done) | (simp only [lenE]; omega) | rfl | (simp only [lenE, markR_len]; done) | (simp only [lenE, markR_len]; omega)) only [runE, mapE, listE, initT_5, initT_6, initT_7, initT_8, resV, oneV, binA, unA, reduceCtorEq, Nat.reduceEqDiff, Nat.reduceAdd, Nat.reduceLT, Nat.reduceLeDiff, Nat.reduceMul, Nat.reduceSub, ↓reduceIte, decide_true, decide_false, Bool.true_eq_false, Bool.false_eq_true, Bool.not_true, Bool.not_false, if_true, if_false, and_true, true_and, memE, celE, w64, Nat.zero_add, Nat.add_zero, Nat.mul_one, putL, and_self, ldn, hb]
      refine callH_ac (next_ac M1 cb id (a + 1) l k1 (by omega)) ?_
      rintro r M2 ⟨y, rfl, y0, y1, w2, k2⟩
      have e1 : IntKind.i64.wrap (x * 256) = x * 256 := w64 ⟨by omega, by omega⟩
      have e2 : IntKind.i64.wrap (x * 256 + y) = x * 256 + y := w64 ⟨by omega, by omega⟩
      simp (config := {implicitDefEqProofs := false, maxDischargeDepth := 20}) (disch := first | omega | (simp only [lenE]; done) | (simp only [lenE]; omega) | rfl | (simp only [lenE, markR_len]; done) | (simp only [lenE, markR_len]; omega)) only [runE, mapE, listE, initT_5, initT_6, initT_7, initT_8, resV, oneV, binA, unA, reduceCtorEq, Nat.reduceEqDiff, Nat.reduceAdd, Nat.reduceLT, Nat.reduceLeDiff, Nat.reduceMul, Nat.reduceSub, ↓reduceIte, decide_true, decide_false, Bool.true_eq_false, Bool.false_eq_true, Bool.not_true, Bool.not_false, if_true, if_false, and_true, true_and, memE, celE, w64, Nat.zero_add, Nat.add_zero, Nat.mul_one, putL, and_self, ldn, e1, e2, hn0]
      exact ⟨_, rfl, Int.tmod_nonneg _ (by omega), Int.tmod_lt_of_pos _ (by omega), w1.trans h.lt w2, a + 1 + 1, by omega, k2⟩
    · simp (config := {implicitDefEqProofs := false, maxDischargeDepth := 20}) (disch := first | omega | (simp only [lenE]; done) | (simp only [lenE]; omega) | rfl | (simp only [lenE, markR_len]; done) | (simp only [lenE, markR_len]; omega)) only [runE, mapE, listE, initT_5, initT_6, initT_7, initT_8, resV, oneV, binA, unA, reduceCtorEq, Nat.reduceEqDiff, Nat.reduceAdd, Nat.reduceLT, Nat.reduceLeDiff, Nat.reduceMul, Nat.reduceSub, ↓reduceIte, decide_true, decide_false, Bool.true_eq_false, Bool.false_eq_true, Bool.not_true, Bool.not_false, if_true, if_false, and_true, true_and, memE, celE, w64, Nat.zero_add, Nat.add_zero, Nat.mul_one, putL, and_self, ldn, hb, hn0]
      exact ⟨_, rfl, Int.tmod_nonneg _ (by omega), Int.tmod_lt_of_pos _ (by omega), w1, a + 1, by omega, k1⟩
theorem one_ac (M : Mem) (cb id a : Nat) (l : List Int) (n : Int) (h : CurA M cb l id a) (ha : a ≤ 999999998) (h1 : 1 ≤ n) (h2 : n ≤ 65536) :
    AC Try.prog 56 [.pointer (some ⟨id, 0, none⟩), .int .i64 n] M fun r M' => ∃ b : Bool, r = .bool b ∧ Cw id M M' ∧ ∃ a', a' ≤ a + 2 ∧ CurA M' cb l id a' := by
  refine ac_of_run mixed ok_spec_l1Cur__one (by simp) (go_start _ _ _ ?_)
  simp (config := {implicitDefEqProofs := false, maxDischargeDepth := 20}) (disch := first | omega | (simp only [lenE]; done) | (simp only [lenE]; omega) | rfl | (simp only [lenE, markR_len]; done) | (simp only [lenE, markR_len]; omega)) only [runE, mapE, listE, initT_5, initT_6, initT_7, initT_8, resV, oneV, binA, unA, reduceCtorEq, Nat.reduceEqDiff, Nat.reduceAdd, Nat.reduceLT, Nat.reduceLeDiff, Nat.reduceMul, Nat.reduceSub, ↓reduceIte, decide_true, decide_false, Bool.true_eq_false, Bool.false_eq_true, Bool.not_true, Bool.not_false, if_true, if_false, and_true, true_and, memE, celE, w64, Nat.zero_add, Nat.add_zero, Nat.mul_one, putL, and_self, ldn, c_spec_l1Cur__one, r_spec_l1Cur__one]
  refine callH_ac (pick_ac M cb id a l n h ha h1 h2) ?_
  rintro r M1 ⟨x, rfl, x0, x1, w1, k1⟩
  simp (config := {implicitDefEqProofs := false, maxDischargeDepth := 20}) (disch := first | omega | (simp only [lenE]; done) | (simp only [lenE]; omega) | rfl | (simp only [lenE, markR_len]; done) | (simp only [lenE, markR_len]; omega)) only [runE, mapE, listE, initT_5, initT_6, initT_7, initT_8, resV, oneV, binA, unA, reduceCtorEq, Nat.reduceEqDiff, Nat.reduceAdd, Nat.reduceLT, Nat.reduceLeDiff, Nat.reduceMul, Nat.reduceSub, ↓reduceIte, decide_true, decide_false, Bool.true_eq_false, Bool.false_eq_true, Bool.not_true, Bool.not_false, if_true, if_false, and_true, true_and, memE, celE, w64, Nat.zero_add, Nat.add_zero, Nat.mul_one, putL, and_self, ldn]
  exact ⟨_, rfl, w1, k1⟩
theorem among_ac (M : Mem) (cb id a : Nat) (l : List Int) (u : Value) (xs : List Int) (h : CurA M cb l id a) (ha : a ≤ 999999998) (h0 : IntsA M u xs) (hk : ∀ M', Cw id M M' → IntsA M' u xs) (h1 : 1 ≤ xs.length) (h2 : xs.length ≤ 1000) :
    AC Try.prog 55 [.pointer (some ⟨id, 0, none⟩), u] M fun r M' => ∃ x ∈ xs, r = .int .i64 x ∧ Cw id M M' ∧ ∃ a', a' ≤ a + 2 ∧ CurA M' cb l id a' := by
  refine ac_of_run mixed ok_spec_l1Cur__among (by simp) (go_start _ _ _ ?_)
  simp (config := {implicitDefEqProofs := false, maxDischargeDepth := 20}) (disch := first | omega | (simp only [lenE]; done) | (simp only [lenE]; omega) | rfl | (simp only [lenE, markR_len]; done) | (simp only [lenE, markR_len]; omega)) only [runE, mapE, listE, initT_5, initT_6, initT_7, initT_8, resV, oneV, binA, unA, reduceCtorEq, Nat.reduceEqDiff, Nat.reduceAdd, Nat.reduceLT, Nat.reduceLeDiff, Nat.reduceMul, Nat.reduceSub, ↓reduceIte, decide_true, decide_false, Bool.true_eq_false, Bool.false_eq_true, Bool.not_true, Bool.not_false, if_true, if_false, and_true, true_and, memE, celE, w64, Nat.zero_add, Nat.add_zero, Nat.mul_one, putL, and_self, ldn, c_spec_l1Cur__among, r_spec_l1Cur__among, h0.len]
  refine callH_ac (pick_ac M cb id a l (xs.length : Int) h ha (by omega) (by omega)) ?_
  rintro r M1 ⟨x, rfl, x0, x1, w1, k1⟩
  obtain ⟨j, rfl⟩ : ∃ j : Nat, x = (j : Int) := ⟨x.toNat, by omega⟩
  have i1 := hk M1 w1
  simp (config := {implicitDefEqProofs := false, maxDischargeDepth := 20}) (disch := first | omega | (simp only [lenE]; done) | (simp only [lenE]; omega) | rfl | (simp only [lenE, markR_len]; done) | (simp only [lenE, markR_len]; omega)) only [runE, mapE, listE, initT_5, initT_6, initT_7, initT_8, resV, oneV, binA, unA, reduceCtorEq, Nat.reduceEqDiff, Nat.reduceAdd, Nat.reduceLT, Nat.reduceLeDiff, Nat.reduceMul, Nat.reduceSub, ↓reduceIte, decide_true, decide_false, Bool.true_eq_false, Bool.false_eq_true, Bool.not_true, Bool.not_false, if_true, if_false, and_true, true_and, memE, celE, w64, Nat.zero_add, Nat.add_zero, Nat.mul_one, putL, and_self, ldn, i1.at_ j (by omega), i1.ld j (by omega)]
  refine ⟨xs.getD j 0, ?_, rfl, w1, k1⟩
  rw [List.getD_eq_getElem?_getD, List.getElem?_eq_getElem (by omega)]
  exact List.getElem_mem _
theorem Cw.own {id b : Nat} {M M' : Mem} {xs : List Int} (h : Cw id M M') (ho : OwnR M b xs) (hne : b ≠ id) : OwnR M' b xs := (h.old b hne ho.lt).trans ho
end Go.Proofs.Ytibkaclkaigflaa.Ab
end
section
namespace Go.Proofs.Ytibkaclkaigflaa
open Go.RowKit
def Rd (w : World) (B : Nat) (A : Option Addr) (xs : List Value) : Prop :=
  0 < xs.length → ∃ b off, A = some ⟨b, off, none⟩ ∧ b < B ∧ ∀ (k : Nat) (u : Value), xs[k]? = some u → w.cell? ⟨b, off + k, none⟩ = some u

theorem Rd.at_ {w : World} {B : Nat} {A : Option Addr} {xs : List Value} (h : Rd w B A xs) {k : Nat} {u : Value} (hk : xs[k]? = some u) :
    ∃ b off, A = some ⟨b, off, none⟩ ∧ b < B ∧ w.cell? ⟨b, off + k, none⟩ = some u := by
  obtain ⟨hl, _⟩ := List.getElem?_eq_some_iff.1 hk
  obtain ⟨b, off, e, hb, hc⟩ := h (by omega)
  exact ⟨b, off, e, hb, hc k u hk⟩
theorem Rd.nil (w : World) (B : Nat) (A : Option Addr) : Rd w B A [] := fun h => absurd h (by simp)
theorem Rd.keep {w w' : World} {B : Nat} {A : Option Addr} {xs : List Value} (h : Rd w B A xs) (hk : ∀ p : Addr, p.block < B → w'.cell? p = w.cell? p) : Rd w' B A xs := by
  intro hl
  obtain ⟨b, off, e, hb, hc⟩ := h hl
  exact ⟨b, off, e, hb, fun k u hu => (hk ⟨b, off + k, none⟩ hb).trans (hc k u hu)⟩
theorem Rd.below {w w' : World} {B : Nat} {A : Option Addr} {xs : List Value} (h : Rd w B A xs) (hb : Below B w w') : Rd w' B A xs :=
  h.keep fun _ hp => hb.cell hp
theorem Rd.drewN {w : World} {B : Nat} {A : Option Addr} {xs : List Value} (h : Rd w B A xs) (n : Nat) : Rd (w.drewN n) B A xs := h
theorem Rd.more {w : World} {B B' : Nat} {A : Option Addr} {xs : List Value} (h : Rd w B A xs) (hB : B ≤ B') : Rd w B' A xs := by
  intro hl
  obtain ⟨b, off, e, hb, hc⟩ := h hl
  exact ⟨b, off, e, by omega, hc⟩
theorem Rd.own {w : World} {base : Nat} {e : TypeId} {A : Option Addr} {n c : Nat} {xs : List Value} (h : w.ownsRow base e 1 (.slice A n c) n xs) : Rd w w.heap.size A xs := by
  intro hl
  obtain ⟨hn, h2⟩ := h
  rcases h2 with ⟨h0, rfl⟩ | ⟨g, cap, cur, hv, hb, hg, _, _, _, ht⟩
  · omega
  · simp only [Value.slice.injEq] at hv
    obtain ⟨rfl, _, _⟩ := hv
    refine ⟨g, 0, rfl, (Array.getElem?_eq_some_iff.1 hg).1, fun k u hu => ?_⟩
    rw [Nat.zero_add, cell_of_row w g k cur e (0, 0) hg]
    rw [← ht, List.getElem?_take] at hu
    split at hu
    · simpa using hu
    · cases hu
theorem below_drewN (B : Nat) (w : World) (n : Nat) : Below B w (w.drewN n) := ⟨rfl, rfl, rfl, Nat.le_refl _, fun _ _ => rfl⟩
def Drew (w w' : World) : Prop := ∃ n, w' = w.drewN n
theorem Drew.refl (w : World) : Drew w w := ⟨0, rfl⟩
theorem Drew.step {w w' : World} (h : Drew w w') (n : Nat) : Drew w (w'.drewN n) := by
  obtain ⟨k, rfl⟩ := h; exact ⟨k + n, by rw [World.drewN_drewN]⟩
theorem Drew.trans {w w' w2 : World} (h : Drew w w') (h2 : Drew w' w2) : Drew w w2 := by
  obtain ⟨k, rfl⟩ := h2; exact h.step k
theorem Drew.cell {w w' : World} (h : Drew w w') (p : Addr) : w'.cell? p = w.cell? p := by
  obtain ⟨k, rfl⟩ := h; rfl
theorem Drew.size {w w' : World} (h : Drew w w') : w'.heap.size = w.heap.size := by
  obtain ⟨k, rfl⟩ := h; rfl
theorem Drew.below {w w' : World} (h : Drew w w') (B : Nat) : Below B w w' := by
  obtain ⟨k, rfl⟩ := h; exact below_drewN B w k
theorem Drew.own {w w' : World} (h : Drew w w') {base : Nat} {e : TypeId} {size n : Nat} {v : Value} {xs : List Value} (ho : w.ownsRow base e size v n xs) : w'.ownsRow base e size v n xs := by
  obtain ⟨k, rfl⟩ := h; exact ho
end Go.Proofs.Ytibkaclkaigflaa
end
section
namespace Go.Proofs.Ytibkaclkaigflaa
open Go.RowKit
set_option linter.unusedVariables false
structure Kept (lo hi : Nat) (w w' : World) : Prop where
  os : w'.os = w.os
  tape : w'.tape = w.tape
  output : w'.output = w.output
  size : w.heap.size ≤ w'.heap.size
  block : ∀ k, k < w.heap.size → (k < lo ∨ hi ≤ k) → w'.heap[k]? = w.heap[k]?
theorem Kept.refl (lo hi : Nat) (w : World) : Kept lo hi w w := ⟨rfl, rfl, rfl, Nat.le_refl _, fun _ _ _ => rfl⟩
theorem Kept.trans {lo hi : Nat} {a b c : World} (h : Kept lo hi a b) (h2 : Kept lo hi b c) : Kept lo hi a c :=
  ⟨h2.os.trans h.os, h2.tape.trans h.tape, h2.output.trans h.output, Nat.le_trans h.size h2.size, fun k hk hr => (h2.block k (Nat.lt_of_lt_of_le hk h.size) hr).trans (h.block k hk hr)⟩
theorem Kept.below {lo hi B : Nat} {w w' : World} (h : Kept lo hi w w') (h1 : B ≤ lo) (h2 : B ≤ w.heap.size) : Below B w w' :=
  ⟨h.os, h.tape, h.output, h.size, fun k hk => h.block k (by omega) (.inl (by omega))⟩
theorem Kept.set {lo hi : Nat} {w : World} {b off : Nat} (h1 : lo ≤ b) (h2 : b < hi) (v : Value) : Kept lo hi w (w.setCell ⟨b, off, none⟩ v) := by
  have h0 := (Below.refl lo w).setCell (p := ⟨b, off, none⟩) h1 v
  exact ⟨h0.os, h0.tape, h0.output, h0.size, fun k hk hr => Below.heap_setCell w _ v k (by show k ≠ b; omega)⟩

def IntsIn (w : World) (v : Value) (l : List Int) : Prop :=
  ∃ A c, v = .slice A l.length c ∧ l.length ≤ c ∧ c ≤ maxLen ∧ Rd w w.heap.size A (l.map (Value.int .i64))
theorem IntsIn.below {w w' : World} {v : Value} {l : List Int} (h : IntsIn w v l) (hb : Below w.heap.size w w') : IntsIn w' v l := by
  obtain ⟨A, c, h1, h2, h3, h4⟩ := h
  exact ⟨A, c, h1, h2, h3, (h4.below hb).more hb.size⟩
theorem IntsIn.nil (w : World) (c : Nat) (A : Option Addr) (h : c ≤ maxLen) : IntsIn w (.slice A 0 c) [] := ⟨A, c, rfl, Nat.zero_le _, h, Rd.nil _ _ _⟩

def OwnInts (w : World) (lo hi : Nat) (v : Value) (l : List Int) : Prop :=
  w.ownsRow lo 3 1 v l.length (l.map (Value.int .i64)) ∧ ∀ g, v.ownBlock = some g → g < hi
theorem OwnInts.form {w : World} {lo hi : Nat} {v : Value} {l : List Int} (h : OwnInts w lo hi v l) :
    ∃ A c, v = .slice A l.length c ∧ l.length ≤ c ∧ c ≤ maxLen := by
  rcases h.1.2 with ⟨rfl, h0⟩ | ⟨g, cap, cur, rfl, _, _, h1, h2, _⟩
  · exact ⟨none, 0, by rw [h0], by omega, Nat.zero_le _⟩
  · exact ⟨_, _, rfl, h1, h2⟩
theorem OwnInts.ints {w : World} {lo hi : Nat} {v : Value} {l : List Int} (h : OwnInts w lo hi v l) : IntsIn w v l := by
  obtain ⟨A, c, rfl, h1, h2⟩ := h.form
  exact ⟨A, c, rfl, h1, h2, Rd.own h.1⟩
theorem own_rest {w w' : World} {base : Nat} {e : TypeId} {size n : Nat} {v : Value} {xs : List Value} (h : w.ownsRow base e size v n xs) (hb : ∀ g, v.ownBlock = some g → w'.heap[g]? = w.heap[g]?) : w'.ownsRow base e size v n xs := by
  refine ⟨h.1, ?_⟩
  rcases h.2 with hn | ⟨g, cap, cur, rfl, hbg, hgg, rest⟩
  · exact .inl hn
  · exact .inr ⟨g, cap, cur, rfl, hbg, (hb g rfl).trans hgg, rest⟩
theorem OwnInts.below {w w' : World} {lo hi B : Nat} {v : Value} {l : List Int} (h : OwnInts w lo hi v l) (hb : Below B w w') (hd : hi ≤ B) : OwnInts w' lo hi v l :=
  ⟨own_rest h.1 fun g hg => by
    have h2 := h.2 g hg
    exact hb.block g (by omega), h.2⟩
end Go.Proofs.Ytibkaclkaigflaa
end
section
namespace Go.Proofs.Ytibkaclkaigflaa
open Go.ChangeShapes Go.WideShapes Go.ChangeAt Go.RowKit
set_option linter.unusedVariables false
theorem own : ownKnob Try.prog.godebug = none := by kernel_rfl
theorem laidOut : laidOutB Try.prog = true := by kernel_rfl

theorem trodAll_below {H : Type} {enc : TypeId × Value → H} {P : Program} (hl : laidOutB P = true) {W W' : World} (hb : Below W.heap.size W W') :
    ∀ {ts : List TypeId} {vs : List Value} {ds : List (DataW H)} {ps : List MemPlace}, ts.all (fun t => P.readableRec t && decide (t < P.types.size)) = true →
      (∀ x ∈ ps, x.block < W.heap.size) → DataW.TrodAll enc P W 0 (fun _ => true) true ts vs ds ps →
      DataW.TrodAll enc P W' 0 (fun b => decide (b < W.heap.size)) true ts vs ds ps
  | [], [], [], ps, _, _, h => h
  | t :: ts, v :: vs, d :: ds, ps, hr, hp, h => by
    obtain ⟨p, q, h1, h2, rfl⟩ := h
    simp only [List.all_cons, Bool.and_eq_true, decide_eq_true_eq] at hr
    exact ⟨p, q, Below.trod hl hr.1.1 hr.1.2 h1 hb (fun x hx => hp x (by simp [hx])),
      trodAll_below hl hb hr.2 (fun x hx => hp x (by simp [hx])) h2, rfl⟩
  | [], _ :: _, _, _, _, _, h => h.elim
  | [], [], _ :: _, _, _, _, h => h.elim
  | _ :: _, [], _, _, _, _, h => h.elim
  | _ :: _, _ :: _, [], _, _, _, h => h.elim

theorem trodAll_len {H : Type} {enc : TypeId × Value → H} {P : Program} {W : World} {base : Nat} {sp : Nat → Bool} {hd : Bool} :
    ∀ {ts : List TypeId} {vs : List Value} {ds : List (DataW H)} {ps : List MemPlace}, DataW.TrodAll enc P W base sp hd ts vs ds ps → ds.length = ts.length
  | [], [], [], _, _ => rfl
  | _ :: _, _ :: _, _ :: _, _, h => by
    obtain ⟨_, _, _, h2, _⟩ := h
    simp [trodAll_len h2]
  | [], _ :: _, _, _, h => h.elim
  | [], [], _ :: _, _, h => h.elim
  | _ :: _, [], _, _, h => h.elim
  | _ :: _, _ :: _, [], _, h => h.elim

theorem law_post {H : Type} {enc : TypeId × Value → H} {P : Program} {f : Func} {s : ChangeSpec} {W W' : World} {args : Array Value} {ds gs : List (DataW H)} {before : List MemPlace} {tb : TypeId}
    (hl : laidOutB P = true) (hr : f.params.toList.all (fun t => P.readableRec t && decide (t < P.types.size)) = true)
    (hres : f.resultTypes = #[tb]) (htb : P.underlying tb = some .bool) (hv : s.vars = [])
    (hfn : ∀ xs : List (DataW H), xs.length = f.params.toList.length → s.fn H xs = { results := [.lit (.bool true)], args := xs })
    (hW : DataW.Whole enc P f.params.toList s.vars false W args.toList ds gs before) (hb : Below W.heap.size W W') :
    s.post enc P f false true false false W args (.bool true) W' := by
  have hW' := hW
  obtain ⟨p, q, hA, hV, rfl, hfz, hnd⟩ := hW
  rw [hv] at hV
  obtain ⟨rfl, rfl⟩ := trodVars_none hV
  have hlen := trodAll_len hA
  have hlt : ∀ x ∈ p, x.block < W.heap.size := fun x hx => by simpa using hW'.lt x (by simp [hx])
  have e : s.fn H (ds ++ []) = { results := [.lit (.bool true)], args := ds } := by rw [List.append_nil]; exact hfn ds hlen
  refine ⟨ds, [], p ++ [], [], p, [], hW', ?_, ?_, ?_, hb.frame _, fun h => by cases h⟩
  · rw [e, hres]; exact trodAll_mk1 (shut_bool htb _)
  · rw [e]; exact trodAll_below hl hb hr hlt hA
  · rw [e, hv]; exact rfl
end Go.Proofs.Ytibkaclkaigflaa
end
section
namespace Go.Proofs.Ytibkaclkaigflaa
open Go.ChangeShapes Go.WideShapes Go.ChangeAt Go.RowKit
open Go.WideMaps Go.WideElems
set_option linter.unusedVariables false
theorem cell_block {w : World} {p : Addr} {v : Value} (h : w.cell? p = some v) : p.block < w.heap.size := by
  rcases Nat.lt_or_ge p.block w.heap.size with hlt | hge
  · exact hlt
  · have hn : w.heap[p.block]? = none := Array.getElem?_eq_none hge
    simp [World.cell?, hn] at h

theorem rd_of {w : World} {a : Addr} {xs : List Value} (h : ∀ (i : Nat) (u : Value), xs[i]? = some u → w.cell? (a.add i) = some u) : Rd w w.heap.size (some a) xs := by
  intro hl
  obtain ⟨b, off, spot⟩ := a
  have h0 := h 0 _ (List.getElem?_eq_getElem hl)
  have hspot : spot = none := by simpa [Addr.add] using World.cell?_spot h0
  subst hspot
  exact ⟨b, off, rfl, cell_block h0, fun k u hu => by rw [← Go.WideShapes.add_plain]; exact h k u hu⟩

end Go.Proofs.Ytibkaclkaigflaa
end
section
namespace Go.Proofs.Ytibkaclkaigflaa
open Go.RowKit Go.ChangeShapes
open Go.WideMaps Go.WideElems Go.WideShapes Go.ChangeAt
set_option linter.unusedVariables false
theorem open_ints_rd {H : Type} {enc : TypeId × Value → H} {P : Program} {W : World} {base : Nat} {t e : TypeId} {k : IntKind} {v : Value} {d : DataW H} {ps : List MemPlace}
    (ht : P.underlying t = some (.slice e)) (he : P.underlying e = some (.int k)) (hc : P.cellsOf e = 1)
    (hval : Value.okWide P W .any base t v) (h : DataW.Trod enc P W 0 (fun _ => true) true t v d ps) :
    ∃ (A : Option Addr) (l : List Int) (c : Nat), v = .slice A l.length c ∧ Rd W W.heap.size A (l.map (Value.int k)) ∧ l.length ≤ c ∧ c ≤ maxLen ∧ ∀ n ∈ l, k.min ≤ n ∧ n ≤ k.max := by
  obtain ⟨a0, len, cap, rfl⟩ := okWide_slice ht hval
  obtain ⟨fuel, hf⟩ := h
  rcases Go.ChangeShapes.open_ints ht he hc hf with ⟨hcs, _⟩ | ⟨a, len', cap', zs, hcs, _, hl, hm, hz, _, hcell, hwf⟩
  · simp [Value.cells] at hcs
    obtain ⟨rfl, rfl, rfl⟩ := hcs
    exact ⟨none, [], 0, rfl, Rd.nil _ _ _, Nat.le_refl _, Nat.zero_le _, fun s hs => by cases hs⟩
  · simp [Value.cells] at hcs
    obtain ⟨rfl, rfl, rfl⟩ := hcs
    simp only [if_true] at hz
    have hlen : (zs.take len).length = len := by rw [List.length_take]; omega
    refine ⟨some a, zs.take len, cap, by rw [hlen], rd_of fun i u hu => ?_, by rw [hlen]; exact hl, hm, fun s hs => by
      have := hwf s (List.mem_of_mem_take hs)
      simpa [Lit.wf] using this⟩
    rw [List.getElem?_map, List.getElem?_take] at hu
    by_cases hi : i < len
    · rw [if_pos hi] at hu
      have hi2 : i < zs.length := by omega
      rw [hcell i hi2]
      rw [List.getElem?_eq_getElem hi2] at hu
      rw [List.getD_eq_getElem?_getD, List.getElem?_eq_getElem hi2]
      simpa using hu
    · rw [if_neg hi] at hu; cases hu
end Go.Proofs.Ytibkaclkaigflaa
end
section
namespace Go.Proofs.Ytibkaclkaigflaa
open Go.RowKit Go.ChangeShapes Go.WideShapes Go.ChangeAt
open Go.WideMaps Go.WideElems
set_option linter.unusedVariables false
def CaseIn (w : World) (v : Value) (k : Cs) : Prop :=
  ∃ v1 v2 v3 v4, v = .agg #[v1, v2, v3, v4] ∧ IntsIn w v1 k.need ∧ IntsIn w v2 k.setup ∧ IntsIn w v3 k.unit ∧ IntsIn w v4 k.hold
theorem CaseIn.below {w w' : World} {v : Value} {k : Cs} (h : CaseIn w v k) (hb : Below w.heap.size w w') : CaseIn w' v k := by
  obtain ⟨v1, v2, v3, v4, h0, h1, h2, h3, h4⟩ := h
  exact ⟨v1, v2, v3, v4, h0, h1.below hb, h2.below hb, h3.below hb, h4.below hb⟩
def OwnCase (w : World) (lo hi : Nat) (v : Value) (k : Cs) : Prop :=
  ∃ v1 v2 v3 v4 m1 m2 m3, v = .agg #[v1, v2, v3, v4] ∧ lo ≤ m1 ∧ m1 ≤ m2 ∧ m2 ≤ m3 ∧ m3 ≤ hi ∧ OwnInts w lo m1 v1 k.need ∧ OwnInts w m1 m2 v2 k.setup ∧ OwnInts w m2 m3 v3 k.unit ∧ OwnInts w m3 hi v4 k.hold
theorem OwnCase.ints {w : World} {lo hi : Nat} {v : Value} {k : Cs} (h : OwnCase w lo hi v k) : CaseIn w v k := by
  obtain ⟨v1, v2, v3, v4, m1, m2, m3, h0, _, _, _, _, h1, h2, h3, h4⟩ := h
  exact ⟨v1, v2, v3, v4, h0, h1.ints, h2.ints, h3.ints, h4.ints⟩
theorem OwnCase.below {w w' : World} {lo hi B : Nat} {v : Value} {k : Cs} (h : OwnCase w lo hi v k) (hb : Below B w w') (hd : hi ≤ B) : OwnCase w' lo hi v k := by
  obtain ⟨v1, v2, v3, v4, m1, m2, m3, h0, a, b, c, d, h1, h2, h3, h4⟩ := h
  exact ⟨v1, v2, v3, v4, m1, m2, m3, h0, a, b, c, d, h1.below hb (by omega), h2.below hb (by omega), h3.below hb (by omega), h4.below hb (by omega)⟩
theorem OwnCase.le {w : World} {lo hi : Nat} {v : Value} {k : Cs} (h : OwnCase w lo hi v k) : lo ≤ hi := by
  obtain ⟨v1, v2, v3, v4, m1, m2, m3, h0, a, b, c, d, _⟩ := h
  omega

end Go.Proofs.Ytibkaclkaigflaa
end
section
namespace Go.Proofs.Ytibkaclkaigflaa.Ab
open Go Go.RowKit
set_option linter.unusedVariables false
set_option linter.unusedSimpArgs false
theorem tab_none {base : Nat} {W : World} (h : tabB = none) : TabOk base W := fun g vs hg => by rw [h] at hg; cases hg
theorem MRel.start (W : World) (ht : TabOk W.heap.size W := by exact tab_none rfl) : MRel W W.heap.size [] [] W :=
  ⟨rfl, Below.refl _ _, Nat.le_refl _, fun id e xs h => by simp at h, fun id e xs h => by simp at h, fun i j e1 e2 xs ys b1 o1 t1 b2 o2 t2 hij h => by simp at h, ⟨fun id e es h => by simp at h, fun i j e1 e2 xs ys b1 o1 t1 b2 o2 t2 hij h => by simp at h⟩, Oth.refl _, ht⟩
theorem MRel.addRo {W0 : World} {base : Nat} {ρ : Places} {m : Mem} {w : World} (h : MRel W0 base ρ m w) {e : TypeId} {xs : List Value} {b o tot : Nat}
    (hg : ∀ (k : Nat) (x : Value), xs[k]? = some x → b < base ∧ ∃ y, w.cell? ⟨b, o + k, none⟩ = some y ∧ VR ρ x y) : MRel W0 base (ρ ++ [(b, o, tot)]) (m ++ [⟨.ro, e, xs⟩]) w := by
  have hpre := pre_snoc ρ (b, o, tot)
  refine ⟨by simp [h.len], h.below, h.le, ?_, ?_, ?_, h.maps.step hpre (fun id e es hm => by
    rcases at_app hm with ⟨_, hm⟩ | ⟨_, he⟩
    · exact hm
    · cases he) fun _ _ _ _ h => h, h.oth, h.tab⟩
  · intro id e' xs' hm
    rcases at_app hm with ⟨hi, hm⟩ | ⟨hi, he⟩
    · obtain ⟨b', o', tot', hp, hc⟩ := h.ro id e' xs' hm
      exact ⟨b', o', tot', pre_at hpre hp, fun k x hx => by obtain ⟨h1, y, hy, hv⟩ := hc k x hx; exact ⟨h1, y, hy, hv.mono hpre⟩⟩
    · cases he
      exact ⟨b, o, tot, by rw [hi, ← h.len]; simp, fun k x hx => by obtain ⟨h1, y, hy, hv⟩ := hg k x hx; exact ⟨h1, y, hy, hv.mono hpre⟩⟩
  · intro id e' xs' hm
    rcases at_app hm with ⟨hi, hm⟩ | ⟨hi, he⟩
    · obtain ⟨b', tot', hp, hl, hc⟩ := h.own id e' xs' hm
      refine ⟨b', tot', pre_at hpre hp, hl, fun ht => ?_⟩
      obtain ⟨h1, cur', hg', hs, hcur⟩ := hc ht
      exact ⟨h1, cur', hg', hs, fun k x hx => by obtain ⟨y, hy, hv⟩ := hcur k x hx; exact ⟨y, hy, hv.mono hpre⟩⟩
    · cases he
  · intro i j e1 e2 xs1 xs2 b1 o1 t1 b2 o2 t2 hij h1 h2 hp1 hp2 ht1 ht2
    have old : ∀ (i : Nat) (p : Nat × Nat × Nat), i < m.length → (ρ ++ [(b, o, tot)])[i]? = some p → ρ[i]? = some p := by
      intro i p hi hp
      rw [List.getElem?_append_left (by rw [h.len]; exact hi)] at hp
      exact hp
    rcases at_app h1 with ⟨hi1, hm1⟩ | ⟨hi1, he1⟩
    · rcases at_app h2 with ⟨hi2, hm2⟩ | ⟨hi2, he2⟩
      · exact h.apart i j e1 e2 xs1 xs2 b1 o1 t1 b2 o2 t2 hij hm1 hm2 (old i _ hi1 hp1) (old j _ hi2 hp2) ht1 ht2
      · cases he2
    · cases he1
theorem IntsIn.bd {W : World} {v : Value} {l : List Int} (h : IntsIn W v l) : l.length ≤ 9223372036854775807 := by
  obtain ⟨A, c, _, h1, h2, _⟩ := h
  unfold maxLen at h2; omega
theorem law_calls {P : Program} {f : FuncId} {xs : List Value} {m : Mem} {ρ : Places} {W : World} {cargs : List Value} (h : AC P f xs m fun v _ => v = .bool true) (hm : MRel W W.heap.size ρ m W) (hv : VL ρ xs cargs) :
    Calls P f cargs.toArray W fun e w' => e = .returned (.bool true) ∧ Below W.heap.size W w' := by
  refine (h.2 W W.heap.size ρ W cargs hm hv).mono ?_
  rintro e w' ⟨v, v', m', ρ', rfl, rfl, hp, hm', hvr⟩
  rw [hvr.bool_inv]
  exact ⟨rfl, hm'.below⟩

def RowA (m : Mem) (id : Nat) (l : List Int) : Prop := l.length ≤ 9223372036854775807 ∧ ∃ kd e, kd ≠ Kd.dead ∧ m[id]? = some ⟨kd, e, l.map (Value.int .i64)⟩
theorem RowA.lt {m : Mem} {id : Nat} {l : List Int} (h : RowA m id l) : id < m.length := by
  obtain ⟨_, _, _, _, h⟩ := h
  exact (List.getElem?_eq_some_iff.1 h).1
theorem RowA.ext {m : Mem} {id : Nat} {l : List Int} (h : RowA m id l) (new : Mem) : RowA (m ++ new) id l := by
  have hl := h.lt
  obtain ⟨hb, kd, e, hk, h⟩ := h
  exact ⟨hb, kd, e, hk, by rw [List.getElem?_append_left hl]; exact h⟩
theorem RowA.ro {m : Mem} {id : Nat} {l : List Int} (h : RowA m id l) : RowA (roM m) id l := by
  obtain ⟨hb, kd, e, hk, h⟩ := h
  cases kd with
  | dead => exact absurd rfl hk
  | ro => exact ⟨hb, .ro, e, by simp, by unfold roM; rw [List.getElem?_map, h]; rfl⟩
  | own => exact ⟨hb, .ro, e, by simp, by unfold roM; rw [List.getElem?_map, h]; rfl⟩
theorem RowA.ints {m : Mem} {id : Nat} {l : List Int} (h : RowA m id l) (fl : Nat) : IntsA m (.slice (some ⟨id, 0, none⟩) l.length fl) l := by
  obtain ⟨hb, kd, e, hk, h⟩ := h
  refine IntsA.of_block hb (fun k hk2 => ?_) ?_
  · unfold rdc
    rw [h]
    simp [hk, hk2]
  · unfold rdl
    rw [h]
    simp [hk, List.take_of_length_le]
theorem OwnR.row {m : Mem} {id : Nat} {l : List Int} (h : OwnR m id l) (hb : l.length ≤ 9223372036854775807) : RowA m id l := ⟨hb, .own, _, by simp, h⟩
theorem OwnR.here (m : Mem) (l : List Int) (id : Nat) (h : id = m.length) : OwnR (m ++ [rowB l]) id l := by unfold OwnR; rw [h]; simp
theorem CaseA.rows {m : Mem} {k : Cs} {i1 i2 i3 i4 f1 f2 f3 f4 : Nat} (h1 : RowA m i1 k.need) (h2 : RowA m i2 k.setup) (h3 : RowA m i3 k.unit) (h4 : RowA m i4 k.hold) :
    CaseA m (.agg #[.slice (some ⟨i1, 0, none⟩) k.need.length f1, .slice (some ⟨i2, 0, none⟩) k.setup.length f2, .slice (some ⟨i3, 0, none⟩) k.unit.length f3, .slice (some ⟨i4, 0, none⟩) k.hold.length f4]) k :=
  ⟨_, _, _, _, rfl, h1.ints _, h2.ints _, h3.ints _, h4.ints _⟩
theorem OwnR.new {m new : Mem} {i id : Nat} {l : List Int} (h : new[i]? = some (rowB l)) (hi : id = m.length + i) : OwnR (m ++ new) id l := by
  unfold OwnR; rw [hi, List.getElem?_append_right (by omega)]; simpa using h

def AnsL (m : Mem) (l : List Int) (ok : Bool) (r : Value) (new : Mem) : Prop :=
  NoRo new ∧ l.length ≤ 1048576 ∧ ∃ i fl, r = .tuple #[.slice (some ⟨m.length + i, 0, none⟩) l.length fl, .bool ok] ∧ new[i]? = some (rowB l)
def AnsV (x r : Value) (new : Mem) : Prop := r = x ∧ NoRo new
end Go.Proofs.Ytibkaclkaigflaa.Ab
end
section
namespace Go.Proofs.Ytibkaclkaigflaa.Ab
open Go Go.RowKit Go.Proofs
set_option maxRecDepth 100000
def c_impl_HorizonsOf : ACode := .seq (.reg [⟨(some 1), .box 26 (.tmp 0), none⟩,
  ⟨(some 2), .mv (.const (.slice none 0 0)), none⟩,
  ⟨(some 3), .mv (.const (.bool false)), none⟩])
 (.seq (.seq (.reg [⟨(some 9), .ld (some 4) (.tmp 1), none⟩,
  ⟨(some 10), .call (.func 20) [(.tmp 9)], none⟩,
  ⟨(some 11), .un .not (.tmp 10), none⟩])
 (.cond (.tmp 11) (.seq (.reg [⟨(some 12), .bsl 3 1 0 [] [], none⟩,
  ⟨(some 2), .mv (.tmp 12), none⟩,
  ⟨(some 3), .mv (.const (.bool false)), none⟩])
 (.ret)) (.skip)))
 (.seq (.reg [⟨(some 14), .ld (some 4) (.tmp 1), none⟩,
  ⟨(some 15), .call (.func 21) [(.tmp 14)], none⟩,
  ⟨(some 13), .mv (.tmp 15), none⟩,
  ⟨(some 16), .ext 0 (.tmp 13), none⟩,
  ⟨(some 17), .ext 1 (.tmp 13), none⟩,
  ⟨(some 4), .mv (.tmp 16), none⟩,
  ⟨(some 5), .mv (.tmp 17), none⟩])
 (.seq (.reg [⟨(some 18), .bsl 3 1 0 [] [], none⟩,
  ⟨(some 6), .mv (.tmp 18), none⟩])
 (.seq (.seq (.reg [⟨(some 19), .mv (.tmp 5), none⟩,
  ⟨(some 20), .len (.tmp 19), none⟩,
  ⟨(some 21), .mv (.const (.int .i64 0)), none⟩])
 (.block 0 (.loop (.seq (.reg [⟨(some 22), .bin .lss (.tmp 21) (.tmp 20), none⟩])
 (.seq (.cond (.tmp 22) (.skip) (.exit 0))
 (.seq (.block 1 (.seq (.reg [⟨(some 23), .mv (.tmp 21), none⟩,
  ⟨(some 24), .iad 1 (.tmp 19) (.tmp 21), none⟩,
  ⟨(some 25), .ld none (.tmp 24), none⟩,
  ⟨(some 7), .mv (.tmp 23), none⟩,
  ⟨(some 8), .mv (.tmp 25), none⟩])
 (.seq (.reg [⟨(some 26), .mv (.tmp 8), none⟩,
  ⟨(some 27), .mv (.tmp 7), none⟩,
  ⟨(some 28), .bin .eql (.tmp 26) (.tmp 27), none⟩,
  ⟨(some 29), .mv (.tmp 28), none⟩,
  ⟨(some 30), .fad 0 (.tmp 1), (some (29, true))⟩,
  ⟨(some 31), .ld none (.tmp 30), (some (29, true))⟩,
  ⟨(some 32), .mv (.tmp 7), (some (29, true))⟩,
  ⟨(some 33), .iad 1 (.tmp 31) (.tmp 32), (some (29, true))⟩,
  ⟨(some 34), .ld none (.tmp 33), (some (29, true))⟩,
  ⟨(some 35), .bin .gtr (.tmp 34) (.const (.int .i64 0)), (some (29, true))⟩,
  ⟨(some 36), .pick (.tmp 29) (.tmp 35) (.const (.bool false)), none⟩])
 (.cond (.tmp 36) (.reg [⟨(some 37), .mv (.tmp 6), none⟩,
  ⟨(some 38), .mv (.tmp 7), none⟩,
  ⟨(some 39), .bin .add (.tmp 38) (.const (.int .i64 1)), none⟩,
  ⟨(some 40), .bsl 3 1 1 [(.int .i64 0)] [(0, 1, (.tmp 39))], none⟩,
  ⟨(some 41), .app 3 1 8 (.tmp 37) (.tmp 40), none⟩,
  ⟨(some 6), .mv (.tmp 41), none⟩]) (.skip)))))
 (.reg [⟨(some 42), .bin .add (.tmp 21) (.const (.int .i64 1)), none⟩,
  ⟨(some 21), .mv (.tmp 42), none⟩])))))))
 (.seq (.reg [⟨(some 43), .mv (.tmp 6), none⟩,
  ⟨(some 2), .mv (.tmp 43), none⟩,
  ⟨(some 3), .mv (.const (.bool true)), none⟩])
 (.ret))))))
def r_impl_HorizonsOf : List ARes := [.tmp 2, .tmp 3]
theorem ok_impl_HorizonsOf : FnOk Try.prog 6 44 c_impl_HorizonsOf r_impl_HorizonsOf := ⟨⟨Try.f6, _, Try.func6, by kernel_rfl, rfl, rfl, by kernel_rfl, by kernel_rfl⟩⟩
def c_spec_HorizonsOf : ACode := .seq (.reg [⟨(some 1), .box 26 (.tmp 0), none⟩,
  ⟨(some 2), .mv (.const (.slice none 0 0)), none⟩,
  ⟨(some 3), .mv (.const (.bool false)), none⟩])
 (.seq (.reg [⟨(some 8), .bsl 3 1 0 [] [], none⟩,
  ⟨(some 4), .mv (.tmp 8), none⟩])
 (.seq (.seq (.reg [⟨(some 9), .ld (some 4) (.tmp 1), none⟩,
  ⟨(some 10), .call (.func 22) [(.tmp 9)], none⟩,
  ⟨(some 11), .un .not (.tmp 10), none⟩])
 (.cond (.tmp 11) (.seq (.reg [⟨(some 12), .mv (.tmp 4), none⟩,
  ⟨(some 2), .mv (.tmp 12), none⟩,
  ⟨(some 3), .mv (.const (.bool false)), none⟩])
 (.ret)) (.skip)))
 (.seq (.reg [⟨(some 14), .ld (some 4) (.tmp 1), none⟩,
  ⟨(some 15), .call (.func 23) [(.tmp 14)], none⟩,
  ⟨(some 13), .mv (.tmp 15), none⟩,
  ⟨(some 16), .ext 0 (.tmp 13), none⟩,
  ⟨(some 17), .ext 1 (.tmp 13), none⟩,
  ⟨(some 5), .mv (.tmp 16), none⟩,
  ⟨(some 6), .mv (.tmp 17), none⟩])
 (.seq (.seq (.reg [⟨(some 7), .mv (.const (.int .i64 1)), none⟩])
 (.block 0 (.loop (.seq (.seq (.reg [⟨(some 18), .mv (.tmp 7), none⟩,
  ⟨(some 19), .mv (.tmp 6), none⟩,
  ⟨(some 20), .len (.tmp 19), none⟩,
  ⟨(some 21), .bin .leq (.tmp 18) (.tmp 20), none⟩])
 (.cond (.tmp 21) (.skip) (.exit 0)))
 (.seq (.block 1 (.seq (.reg [⟨(some 24), .mv (.tmp 6), none⟩,
  ⟨(some 25), .mv (.tmp 7), none⟩,
  ⟨(some 26), .bin .sub (.tmp 25) (.const (.int .i64 1)), none⟩,
  ⟨(some 27), .iad 1 (.tmp 24) (.tmp 26), none⟩,
  ⟨(some 28), .ld none (.tmp 27), none⟩,
  ⟨(some 29), .mv (.tmp 7), none⟩,
  ⟨(some 30), .bin .sub (.tmp 29) (.const (.int .i64 1)), none⟩,
  ⟨(some 31), .bin .eql (.tmp 28) (.tmp 30), none⟩,
  ⟨(some 32), .mv (.tmp 31), none⟩,
  ⟨(some 33), .fad 0 (.tmp 1), (some (32, true))⟩,
  ⟨(some 34), .ld none (.tmp 33), (some (32, true))⟩,
  ⟨(some 35), .mv (.tmp 7), (some (32, true))⟩,
  ⟨(some 36), .bin .sub (.tmp 35) (.const (.int .i64 1)), (some (32, true))⟩,
  ⟨(some 37), .iad 1 (.tmp 34) (.tmp 36), (some (32, true))⟩,
  ⟨(some 38), .ld none (.tmp 37), (some (32, true))⟩,
  ⟨(some 39), .bin .gtr (.tmp 38) (.const (.int .i64 0)), (some (32, true))⟩,
  ⟨(some 40), .pick (.tmp 32) (.tmp 39) (.const (.bool false)), none⟩])
 (.cond (.tmp 40) (.reg [⟨(some 41), .mv (.tmp 4), none⟩,
  ⟨(some 42), .mv (.tmp 7), none⟩,
  ⟨(some 43), .bsl 3 1 1 [(.int .i64 0)] [(0, 1, (.tmp 42))], none⟩,
  ⟨(some 44), .app 3 1 8 (.tmp 41) (.tmp 43), none⟩,
  ⟨(some 4), .mv (.tmp 44), none⟩]) (.skip))))
 (.reg [⟨(some 22), .mv (.tmp 7), none⟩,
  ⟨(some 23), .bin .add (.tmp 22) (.const (.int .i64 1)), none⟩,
  ⟨(some 7), .mv (.tmp 23), none⟩]))))))
 (.seq (.reg [⟨(some 45), .mv (.tmp 4), none⟩,
  ⟨(some 2), .mv (.tmp 45), none⟩,
  ⟨(some 3), .mv (.const (.bool true)), none⟩])
 (.ret))))))
def r_spec_HorizonsOf : List ARes := [.tmp 2, .tmp 3]
theorem ok_spec_HorizonsOf : FnOk Try.prog 7 46 c_spec_HorizonsOf r_spec_HorizonsOf := ⟨⟨Try.f7, _, Try.func7, by kernel_rfl, rfl, rfl, by kernel_rfl, by kernel_rfl⟩⟩
def c_impl_LastOrders : ACode := .seq (.reg [⟨(some 1), .box 26 (.tmp 0), none⟩,
  ⟨(some 2), .mv (.const (.slice none 0 0)), none⟩,
  ⟨(some 3), .mv (.const (.bool false)), none⟩])
 (.seq (.seq (.reg [⟨(some 6), .ld (some 4) (.tmp 1), none⟩,
  ⟨(some 7), .call (.func 20) [(.tmp 6)], none⟩,
  ⟨(some 8), .un .not (.tmp 7), none⟩])
 (.cond (.tmp 8) (.seq (.reg [⟨(some 9), .bsl 3 1 0 [] [], none⟩,
  ⟨(some 2), .mv (.tmp 9), none⟩,
  ⟨(some 3), .mv (.const (.bool false)), none⟩])
 (.ret)) (.skip)))
 (.seq (.reg [⟨(some 11), .ld (some 4) (.tmp 1), none⟩,
  ⟨(some 12), .call (.func 21) [(.tmp 11)], none⟩,
  ⟨(some 10), .mv (.tmp 12), none⟩,
  ⟨(some 13), .ext 0 (.tmp 10), none⟩,
  ⟨(some 14), .ext 1 (.tmp 10), none⟩,
  ⟨(some 4), .mv (.tmp 13), none⟩,
  ⟨(some 5), .mv (.tmp 14), none⟩])
 (.seq (.reg [⟨(some 15), .mv (.tmp 5), none⟩,
  ⟨(some 2), .mv (.tmp 15), none⟩,
  ⟨(some 3), .mv (.const (.bool true)), none⟩])
 (.ret))))
def r_impl_LastOrders : List ARes := [.tmp 2, .tmp 3]
theorem ok_impl_LastOrders : FnOk Try.prog 8 16 c_impl_LastOrders r_impl_LastOrders := ⟨⟨Try.f8, _, Try.func8, by kernel_rfl, rfl, rfl, by kernel_rfl, by kernel_rfl⟩⟩
def c_impl_TablePeriods : ACode := .seq (.reg [⟨(some 1), .box 26 (.tmp 0), none⟩,
  ⟨(some 2), .mv (.const (.slice none 0 0)), none⟩,
  ⟨(some 3), .mv (.const (.bool false)), none⟩])
 (.seq (.seq (.reg [⟨(some 11), .ld (some 4) (.tmp 1), none⟩,
  ⟨(some 12), .call (.func 20) [(.tmp 11)], none⟩,
  ⟨(some 13), .un .not (.tmp 12), none⟩])
 (.cond (.tmp 13) (.seq (.reg [⟨(some 14), .bsl 3 1 0 [] [], none⟩,
  ⟨(some 2), .mv (.tmp 14), none⟩,
  ⟨(some 3), .mv (.const (.bool false)), none⟩])
 (.ret)) (.skip)))
 (.seq (.reg [⟨(some 16), .ld (some 4) (.tmp 1), none⟩,
  ⟨(some 17), .call (.func 21) [(.tmp 16)], none⟩,
  ⟨(some 15), .mv (.tmp 17), none⟩,
  ⟨(some 18), .ext 0 (.tmp 15), none⟩,
  ⟨(some 19), .ext 1 (.tmp 15), none⟩,
  ⟨(some 4), .mv (.tmp 18), none⟩,
  ⟨(some 5), .mv (.tmp 19), none⟩])
 (.seq (.reg [⟨(some 20), .mv (.tmp 5), none⟩,
  ⟨(some 21), .len (.tmp 20), none⟩,
  ⟨(some 22), .mks 3 8 [(.int .i64 0)] (.tmp 21) (.tmp 21), none⟩,
  ⟨(some 6), .mv (.tmp 22), none⟩])
 (.seq (.reg [⟨(some 23), .mv (.tmp 6), none⟩,
  ⟨(some 24), .len (.tmp 23), none⟩,
  ⟨(some 7), .mv (.tmp 24), none⟩])
 (.seq (.seq (.reg [⟨(some 25), .mv (.tmp 5), none⟩,
  ⟨(some 26), .len (.tmp 25), none⟩,
  ⟨(some 8), .mv (.tmp 26), none⟩])
 (.block 0 (.loop (.seq (.seq (.reg [⟨(some 27), .mv (.tmp 8), none⟩,
  ⟨(some 28), .bin .gtr (.tmp 27) (.const (.int .i64 0)), none⟩])
 (.cond (.tmp 28) (.skip) (.exit 0)))
 (.seq (.block 1 (.seq (.reg [⟨(some 34), .mv (.tmp 5), none⟩,
  ⟨(some 35), .mv (.tmp 8), none⟩,
  ⟨(some 36), .bin .sub (.tmp 35) (.const (.int .i64 1)), none⟩,
  ⟨(some 37), .iad 1 (.tmp 34) (.tmp 36), none⟩,
  ⟨(some 38), .ld none (.tmp 37), none⟩,
  ⟨(some 9), .mv (.tmp 38), none⟩])
 (.seq (.reg [⟨(some 39), .fad 0 (.tmp 1), none⟩,
  ⟨(some 40), .ld none (.tmp 39), none⟩,
  ⟨(some 41), .mv (.tmp 9), none⟩,
  ⟨(some 42), .mv (.tmp 8), none⟩,
  ⟨(some 43), .slc 1 (.tmp 40) (some (.tmp 41)) (some (.tmp 42)), none⟩,
  ⟨(some 44), .call (.func 24) [(.tmp 43)], none⟩,
  ⟨(some 45), .bin .gtr (.tmp 44) (.const (.int .i64 0)), none⟩])
 (.cond (.tmp 45) (.seq (.reg [⟨(some 46), .mv (.tmp 7), none⟩,
  ⟨(some 47), .bin .sub (.tmp 46) (.const (.int .i64 1)), none⟩,
  ⟨(some 7), .mv (.tmp 47), none⟩])
 (.reg [⟨(some 48), .mv (.tmp 6), none⟩,
  ⟨(some 49), .mv (.tmp 7), none⟩,
  ⟨(some 50), .mv (.tmp 9), none⟩,
  ⟨(some 51), .iad 1 (.tmp 48) (.tmp 49), none⟩,
  ⟨none, .st 1 (.tmp 51) (.tmp 50), none⟩])) (.skip)))))
 (.reg [⟨(some 29), .mv (.tmp 5), none⟩,
  ⟨(some 30), .mv (.tmp 8), none⟩,
  ⟨(some 31), .bin .sub (.tmp 30) (.const (.int .i64 1)), none⟩,
  ⟨(some 32), .iad 1 (.tmp 29) (.tmp 31), none⟩,
  ⟨(some 33), .ld none (.tmp 32), none⟩,
  ⟨(some 8), .mv (.tmp 33), none⟩]))))))
 (.seq (.reg [⟨(some 52), .mv (.tmp 6), none⟩,
  ⟨(some 53), .len (.tmp 52), none⟩,
  ⟨(some 54), .mv (.tmp 7), none⟩,
  ⟨(some 55), .bin .sub (.tmp 53) (.tmp 54), none⟩,
  ⟨(some 56), .mks 3 8 [(.int .i64 0)] (.tmp 55) (.tmp 55), none⟩,
  ⟨(some 10), .mv (.tmp 56), none⟩])
 (.seq (.reg [⟨(some 57), .mv (.tmp 10), none⟩,
  ⟨(some 58), .mv (.tmp 6), none⟩,
  ⟨(some 59), .mv (.tmp 7), none⟩,
  ⟨(some 60), .slc 1 (.tmp 58) (some (.tmp 59)) none, none⟩,
  ⟨(some 61), .cpy 1 (.tmp 57) (.tmp 60), none⟩])
 (.seq (.reg [⟨(some 62), .mv (.tmp 10), none⟩,
  ⟨(some 2), .mv (.tmp 62), none⟩,
  ⟨(some 3), .mv (.const (.bool true)), none⟩])
 (.ret)))))))))
def r_impl_TablePeriods : List ARes := [.tmp 2, .tmp 3]
theorem ok_impl_TablePeriods : FnOk Try.prog 10 63 c_impl_TablePeriods r_impl_TablePeriods := ⟨⟨Try.f10, _, Try.func10, by kernel_rfl, rfl, rfl, by kernel_rfl, by kernel_rfl⟩⟩
def c_spec_TablePeriods : ACode := .seq (.reg [⟨(some 1), .box 26 (.tmp 0), none⟩,
  ⟨(some 2), .mv (.const (.slice none 0 0)), none⟩,
  ⟨(some 3), .mv (.const (.bool false)), none⟩])
 (.seq (.reg [⟨(some 9), .bsl 3 1 0 [] [], none⟩,
  ⟨(some 4), .mv (.tmp 9), none⟩])
 (.seq (.seq (.reg [⟨(some 10), .ld (some 4) (.tmp 1), none⟩,
  ⟨(some 11), .call (.func 22) [(.tmp 10)], none⟩,
  ⟨(some 12), .un .not (.tmp 11), none⟩])
 (.cond (.tmp 12) (.seq (.reg [⟨(some 13), .mv (.tmp 4), none⟩,
  ⟨(some 2), .mv (.tmp 13), none⟩,
  ⟨(some 3), .mv (.const (.bool false)), none⟩])
 (.ret)) (.skip)))
 (.seq (.reg [⟨(some 15), .ld (some 4) (.tmp 1), none⟩,
  ⟨(some 16), .call (.func 23) [(.tmp 15)], none⟩,
  ⟨(some 14), .mv (.tmp 16), none⟩,
  ⟨(some 17), .ext 0 (.tmp 14), none⟩,
  ⟨(some 18), .ext 1 (.tmp 14), none⟩,
  ⟨(some 5), .mv (.tmp 17), none⟩,
  ⟨(some 6), .mv (.tmp 18), none⟩])
 (.seq (.seq (.reg [⟨(some 19), .fad 0 (.tmp 1), none⟩,
  ⟨(some 20), .ld none (.tmp 19), none⟩,
  ⟨(some 21), .len (.tmp 20), none⟩,
  ⟨(some 7), .mv (.tmp 21), none⟩])
 (.block 0 (.loop (.seq (.seq (.reg [⟨(some 22), .mv (.tmp 7), none⟩,
  ⟨(some 23), .bin .gtr (.tmp 22) (.const (.int .i64 0)), none⟩])
 (.cond (.tmp 23) (.skip) (.exit 0)))
 (.seq (.block 1 (.seq (.reg [⟨(some 29), .mv (.tmp 6), none⟩,
  ⟨(some 30), .mv (.tmp 7), none⟩,
  ⟨(some 31), .bin .sub (.tmp 30) (.const (.int .i64 1)), none⟩,
  ⟨(some 32), .iad 1 (.tmp 29) (.tmp 31), none⟩,
  ⟨(some 33), .ld none (.tmp 32), none⟩,
  ⟨(some 8), .mv (.tmp 33), none⟩])
 (.seq (.reg [⟨(some 34), .ld (some 4) (.tmp 1), none⟩,
  ⟨(some 35), .mv (.tmp 8), none⟩,
  ⟨(some 36), .mv (.tmp 7), none⟩,
  ⟨(some 37), .call (.func 25) [(.tmp 34), (.tmp 35), (.tmp 36)], none⟩])
 (.cond (.tmp 37) (.reg [⟨(some 38), .mv (.tmp 8), none⟩,
  ⟨(some 39), .bsl 3 1 1 [(.int .i64 0)] [(0, 1, (.tmp 38))], none⟩,
  ⟨(some 40), .mv (.tmp 4), none⟩,
  ⟨(some 41), .app 3 1 8 (.tmp 39) (.tmp 40), none⟩,
  ⟨(some 4), .mv (.tmp 41), none⟩]) (.skip)))))
 (.reg [⟨(some 24), .mv (.tmp 6), none⟩,
  ⟨(some 25), .mv (.tmp 7), none⟩,
  ⟨(some 26), .bin .sub (.tmp 25) (.const (.int .i64 1)), none⟩,
  ⟨(some 27), .iad 1 (.tmp 24) (.tmp 26), none⟩,
  ⟨(some 28), .ld none (.tmp 27), none⟩,
  ⟨(some 7), .mv (.tmp 28), none⟩]))))))
 (.seq (.reg [⟨(some 42), .mv (.tmp 4), none⟩,
  ⟨(some 2), .mv (.tmp 42), none⟩,
  ⟨(some 3), .mv (.const (.bool true)), none⟩])
 (.ret))))))
def r_spec_TablePeriods : List ARes := [.tmp 2, .tmp 3]
theorem ok_spec_TablePeriods : FnOk Try.prog 11 43 c_spec_TablePeriods r_spec_TablePeriods := ⟨⟨Try.f11, _, Try.func11, by kernel_rfl, rfl, rfl, by kernel_rfl, by kernel_rfl⟩⟩
def c_impl_PlanFrom : ACode := .seq (.reg [⟨(some 2), .box 26 (.tmp 0), none⟩,
  ⟨(some 4), .mv (.const (.slice none 0 0)), none⟩,
  ⟨(some 5), .mv (.const (.bool false)), none⟩])
 (.seq (.seq (.reg [⟨(some 10), .ld (some 4) (.tmp 2), none⟩,
  ⟨(some 11), .call (.func 20) [(.tmp 10)], none⟩,
  ⟨(some 12), .un .not (.tmp 11), none⟩,
  ⟨(some 13), .mv (.tmp 12), none⟩,
  ⟨(some 14), .mv (.tmp 1), (some (13, false))⟩,
  ⟨(some 15), .fad 0 (.tmp 2), (some (13, false))⟩,
  ⟨(some 16), .ld none (.tmp 15), (some (13, false))⟩,
  ⟨(some 17), .len (.tmp 16), (some (13, false))⟩,
  ⟨(some 18), .call (.func 26) [(.tmp 14), (.tmp 17)], (some (13, false))⟩,
  ⟨(some 19), .un .not (.tmp 18), (some (13, false))⟩,
  ⟨(some 20), .pick (.tmp 13) (.const (.bool true)) (.tmp 19), none⟩])
 (.cond (.tmp 20) (.seq (.reg [⟨(some 21), .bsl 3 1 0 [] [], none⟩,
  ⟨(some 4), .mv (.tmp 21), none⟩,
  ⟨(some 5), .mv (.const (.bool false)), none⟩])
 (.ret)) (.skip)))
 (.seq (.reg [⟨(some 22), .fad 0 (.tmp 2), none⟩,
  ⟨(some 23), .ld none (.tmp 22), none⟩,
  ⟨(some 24), .len (.tmp 23), none⟩,
  ⟨(some 25), .mks 3 8 [(.int .i64 0)] (.tmp 24) (.tmp 24), none⟩,
  ⟨(some 6), .alc 24 [(.slice none 0 0)], none⟩,
  ⟨none, .st 1 (.tmp 6) (.tmp 25), none⟩])
 (.seq (.reg [⟨(some 26), .ld none (.tmp 6), none⟩,
  ⟨(some 27), .len (.tmp 26), none⟩,
  ⟨(some 7), .alc 3 [(.int .i64 0)], none⟩,
  ⟨none, .st 1 (.tmp 7) (.tmp 27), none⟩])
 (.seq (.seq (.reg [⟨(some 28), .mv (.tmp 1), none⟩,
  ⟨(some 29), .call (.func 27) [(.tmp 28)], none⟩])
 (.block 0 (.range (.tmp 29) [30, 31] (.reg [⟨(some 9), .mv (.tmp 31), none⟩]) (.block 1 (.seq (.reg [⟨(some 32), .ld none (.tmp 6), none⟩,
  ⟨(some 33), .mv (.tmp 9), none⟩,
  ⟨(some 34), .fad 0 (.tmp 2), none⟩,
  ⟨(some 35), .ld none (.tmp 34), none⟩,
  ⟨(some 36), .mv (.tmp 9), none⟩,
  ⟨(some 37), .ld none (.tmp 7), none⟩,
  ⟨(some 38), .slc 1 (.tmp 35) (some (.tmp 36)) (some (.tmp 37)), none⟩,
  ⟨(some 39), .rcall (.func 24) [(.tmp 38)], none⟩,
  ⟨(some 40), .iad 1 (.tmp 32) (.tmp 33), none⟩,
  ⟨none, .st 1 (.tmp 40) (.tmp 39), none⟩])
 (.reg [⟨(some 41), .mv (.tmp 9), none⟩,
  ⟨none, .st 1 (.tmp 7) (.tmp 41), none⟩]))))))
 (.seq (.seq (.reg [⟨(some 42), .fad 0 (.tmp 2), none⟩,
  ⟨(some 43), .ld none (.tmp 42), none⟩,
  ⟨(some 44), .ld none (.tmp 7), none⟩,
  ⟨(some 45), .slc 1 (.tmp 43) none (some (.tmp 44)), none⟩,
  ⟨(some 46), .call (.func 24) [(.tmp 45)], none⟩,
  ⟨(some 47), .bin .gtr (.tmp 46) (.const (.int .i64 0)), none⟩])
 (.cond (.tmp 47) (.seq (.reg [⟨(some 48), .bsl 3 1 0 [] [], none⟩,
  ⟨(some 4), .mv (.tmp 48), none⟩,
  ⟨(some 5), .mv (.const (.bool false)), none⟩])
 (.ret)) (.skip)))
 (.seq (.reg [⟨(some 49), .ld none (.tmp 6), none⟩,
  ⟨(some 4), .mv (.tmp 49), none⟩,
  ⟨(some 5), .mv (.const (.bool true)), none⟩])
 (.ret)))))))
def r_impl_PlanFrom : List ARes := [.tmp 4, .tmp 5]
theorem ok_impl_PlanFrom : FnOk Try.prog 13 50 c_impl_PlanFrom r_impl_PlanFrom := ⟨⟨Try.f13, _, Try.func13, by kernel_rfl, rfl, rfl, by kernel_rfl, by kernel_rfl⟩⟩
def c_impl_PlanCost : ACode := .seq (.reg [⟨(some 2), .box 26 (.tmp 0), none⟩,
  ⟨(some 4), .mv (.const (.int .i64 0)), none⟩,
  ⟨(some 5), .mv (.const (.bool false)), none⟩])
 (.seq (.reg [⟨(some 11), .ld (some 4) (.tmp 2), none⟩,
  ⟨(some 12), .mv (.tmp 1), none⟩,
  ⟨(some 13), .call (.func 28) [(.tmp 11), (.tmp 12)], none⟩,
  ⟨(some 10), .mv (.tmp 13), none⟩,
  ⟨(some 14), .ext 0 (.tmp 10), none⟩,
  ⟨(some 15), .ext 1 (.tmp 10), none⟩,
  ⟨(some 16), .ext 2 (.tmp 10), none⟩,
  ⟨(some 17), .ext 3 (.tmp 10), none⟩,
  ⟨(some 6), .mv (.tmp 14), none⟩,
  ⟨(some 7), .mv (.tmp 15), none⟩,
  ⟨(some 8), .mv (.tmp 16), none⟩,
  ⟨(some 9), .mv (.tmp 17), none⟩])
 (.seq (.reg [⟨(some 18), .mv (.tmp 6), none⟩,
  ⟨(some 19), .mv (.tmp 7), none⟩,
  ⟨(some 20), .bin .add (.tmp 18) (.tmp 19), none⟩,
  ⟨(some 21), .mv (.tmp 8), none⟩,
  ⟨(some 22), .bin .add (.tmp 20) (.tmp 21), none⟩,
  ⟨(some 23), .mv (.tmp 9), none⟩,
  ⟨(some 4), .mv (.tmp 22), none⟩,
  ⟨(some 5), .mv (.tmp 23), none⟩])
 (.ret)))
def r_impl_PlanCost : List ARes := [.tmp 4, .tmp 5]
theorem ok_impl_PlanCost : FnOk Try.prog 14 24 c_impl_PlanCost r_impl_PlanCost := ⟨⟨Try.f14, _, Try.func14, by kernel_rfl, rfl, rfl, by kernel_rfl, by kernel_rfl⟩⟩
def c_impl_BestCost : ACode := .seq (.reg [⟨(some 1), .box 26 (.tmp 0), none⟩,
  ⟨(some 2), .mv (.const (.int .i64 0)), none⟩,
  ⟨(some 3), .mv (.const (.bool false)), none⟩])
 (.seq (.seq (.reg [⟨(some 4), .ld (some 4) (.tmp 1), none⟩,
  ⟨(some 5), .call (.func 20) [(.tmp 4)], none⟩,
  ⟨(some 6), .un .not (.tmp 5), none⟩])
 (.cond (.tmp 6) (.seq (.reg [⟨(some 2), .mv (.const (.int .i64 0)), none⟩,
  ⟨(some 3), .mv (.const (.bool false)), none⟩])
 (.ret)) (.skip)))
 (.seq (.reg [⟨(some 7), .ld (some 4) (.tmp 1), none⟩,
  ⟨(some 8), .call (.func 29) [(.tmp 7)], none⟩,
  ⟨(some 9), .fld 0 none (.tmp 8), none⟩,
  ⟨(some 2), .mv (.tmp 9), none⟩,
  ⟨(some 3), .mv (.const (.bool true)), none⟩])
 (.ret)))
def r_impl_BestCost : List ARes := [.tmp 2, .tmp 3]
theorem ok_impl_BestCost : FnOk Try.prog 15 10 c_impl_BestCost r_impl_BestCost := ⟨⟨Try.f15, _, Try.func15, by kernel_rfl, rfl, rfl, by kernel_rfl, by kernel_rfl⟩⟩
def c_impl_WaitsNever : ACode := .seq (.reg [⟨(some 1), .box 26 (.tmp 0), none⟩,
  ⟨(some 2), .mv (.const (.bool false)), none⟩,
  ⟨(some 3), .mv (.const (.bool false)), none⟩])
 (.seq (.seq (.reg [⟨(some 5), .ld (some 4) (.tmp 1), none⟩,
  ⟨(some 6), .call (.func 20) [(.tmp 5)], none⟩,
  ⟨(some 7), .un .not (.tmp 6), none⟩])
 (.cond (.tmp 7) (.seq (.reg [⟨(some 2), .mv (.const (.bool false)), none⟩,
  ⟨(some 3), .mv (.const (.bool false)), none⟩])
 (.ret)) (.skip)))
 (.seq (.seq (.reg [⟨(some 4), .mv (.const (.int .i64 1)), none⟩])
 (.block 0 (.loop (.seq (.seq (.reg [⟨(some 8), .mv (.tmp 4), none⟩,
  ⟨(some 9), .fad 2 (.tmp 1), none⟩,
  ⟨(some 10), .ld none (.tmp 9), none⟩,
  ⟨(some 11), .len (.tmp 10), none⟩,
  ⟨(some 12), .bin .lss (.tmp 8) (.tmp 11), none⟩])
 (.cond (.tmp 12) (.skip) (.exit 0)))
 (.seq (.block 1 (.seq (.reg [⟨(some 15), .fad 2 (.tmp 1), none⟩,
  ⟨(some 16), .ld none (.tmp 15), none⟩,
  ⟨(some 17), .mv (.tmp 4), none⟩,
  ⟨(some 18), .bin .sub (.tmp 17) (.const (.int .i64 1)), none⟩,
  ⟨(some 19), .iad 1 (.tmp 16) (.tmp 18), none⟩,
  ⟨(some 20), .ld none (.tmp 19), none⟩,
  ⟨(some 21), .fad 3 (.tmp 1), none⟩,
  ⟨(some 22), .ld none (.tmp 21), none⟩,
  ⟨(some 23), .mv (.tmp 4), none⟩,
  ⟨(some 24), .bin .sub (.tmp 23) (.const (.int .i64 1)), none⟩,
  ⟨(some 25), .iad 1 (.tmp 22) (.tmp 24), none⟩,
  ⟨(some 26), .ld none (.tmp 25), none⟩,
  ⟨(some 27), .bin .add (.tmp 20) (.tmp 26), none⟩,
  ⟨(some 28), .fad 2 (.tmp 1), none⟩,
  ⟨(some 29), .ld none (.tmp 28), none⟩,
  ⟨(some 30), .mv (.tmp 4), none⟩,
  ⟨(some 31), .iad 1 (.tmp 29) (.tmp 30), none⟩,
  ⟨(some 32), .ld none (.tmp 31), none⟩,
  ⟨(some 33), .bin .lss (.tmp 27) (.tmp 32), none⟩])
 (.cond (.tmp 33) (.seq (.reg [⟨(some 2), .mv (.const (.bool false)), none⟩,
  ⟨(some 3), .mv (.const (.bool true)), none⟩])
 (.ret)) (.skip))))
 (.reg [⟨(some 13), .mv (.tmp 4), none⟩,
  ⟨(some 14), .bin .add (.tmp 13) (.const (.int .i64 1)), none⟩,
  ⟨(some 4), .mv (.tmp 14), none⟩]))))))
 (.seq (.reg [⟨(some 2), .mv (.const (.bool true)), none⟩,
  ⟨(some 3), .mv (.const (.bool true)), none⟩])
 (.ret))))
def r_impl_WaitsNever : List ARes := [.tmp 2, .tmp 3]
theorem ok_impl_WaitsNever : FnOk Try.prog 16 34 c_impl_WaitsNever r_impl_WaitsNever := ⟨⟨Try.f16, _, Try.func16, by kernel_rfl, rfl, rfl, by kernel_rfl, by kernel_rfl⟩⟩
def c_impl_TurningPeriods : ACode := .seq (.reg [⟨(some 1), .box 26 (.tmp 0), none⟩,
  ⟨(some 2), .mv (.const (.slice none 0 0)), none⟩,
  ⟨(some 3), .mv (.const (.bool false)), none⟩])
 (.seq (.seq (.reg [⟨(some 10), .ld (some 4) (.tmp 1), none⟩,
  ⟨(some 11), .call (.func 20) [(.tmp 10)], none⟩,
  ⟨(some 12), .un .not (.tmp 11), none⟩])
 (.cond (.tmp 12) (.seq (.reg [⟨(some 13), .bsl 3 1 0 [] [], none⟩,
  ⟨(some 2), .mv (.tmp 13), none⟩,
  ⟨(some 3), .mv (.const (.bool false)), none⟩])
 (.ret)) (.skip)))
 (.seq (.reg [⟨(some 15), .ld (some 4) (.tmp 1), none⟩,
  ⟨(some 16), .call (.func 21) [(.tmp 15)], none⟩,
  ⟨(some 14), .mv (.tmp 16), none⟩,
  ⟨(some 17), .ext 0 (.tmp 14), none⟩,
  ⟨(some 18), .ext 1 (.tmp 14), none⟩,
  ⟨(some 4), .mv (.tmp 17), none⟩,
  ⟨(some 5), .mv (.tmp 18), none⟩])
 (.seq (.reg [⟨(some 19), .ld (some 4) (.tmp 1), none⟩,
  ⟨(some 20), .call (.func 30) [(.tmp 19)], none⟩,
  ⟨(some 6), .mv (.tmp 20), none⟩])
 (.seq (.reg [⟨(some 21), .mv (.tmp 6), none⟩,
  ⟨(some 22), .iad 1 (.tmp 21) (.const (.int .i64 0)), none⟩,
  ⟨(some 23), .ld none (.tmp 22), none⟩,
  ⟨(some 7), .alc 3 [(.int .i64 0)], none⟩,
  ⟨none, .st 1 (.tmp 7) (.tmp 23), none⟩])
 (.seq (.seq (.reg [⟨(some 24), .mv (.tmp 4), none⟩,
  ⟨(some 25), .len (.tmp 24), none⟩,
  ⟨(some 26), .mv (.const (.int .i64 0)), none⟩])
 (.block 0 (.loop (.seq (.reg [⟨(some 27), .bin .lss (.tmp 26) (.tmp 25), none⟩])
 (.seq (.cond (.tmp 27) (.skip) (.exit 0))
 (.seq (.block 1 (.seq (.reg [⟨(some 28), .mv (.tmp 26), none⟩,
  ⟨(some 29), .iad 1 (.tmp 24) (.tmp 26), none⟩,
  ⟨(some 30), .ld none (.tmp 29), none⟩,
  ⟨(some 8), .mv (.tmp 28), none⟩,
  ⟨(some 9), .mv (.tmp 30), none⟩])
 (.reg [⟨(some 31), .mv (.tmp 6), none⟩,
  ⟨(some 32), .mv (.tmp 8), none⟩,
  ⟨(some 33), .iad 1 (.tmp 31) (.tmp 32), none⟩,
  ⟨(some 34), .ld none (.tmp 33), none⟩,
  ⟨(some 35), .mv (.tmp 9), none⟩,
  ⟨(some 36), .bin .add (.tmp 34) (.tmp 35), none⟩,
  ⟨(some 37), .iad 1 (.tmp 31) (.tmp 32), none⟩,
  ⟨none, .st 1 (.tmp 37) (.tmp 36), none⟩])))
 (.reg [⟨(some 38), .bin .add (.tmp 26) (.const (.int .i64 1)), none⟩,
  ⟨(some 26), .mv (.tmp 38), none⟩])))))))
 (.seq (.reg [⟨(some 39), .mv (.tmp 6), none⟩,
  ⟨(some 40), .mkf 32 [] [(.tmp 7)], none⟩,
  ⟨(some 41), .call (.func 31) [(.tmp 39), (.tmp 40)], none⟩,
  ⟨(some 2), .mv (.tmp 41), none⟩,
  ⟨(some 3), .mv (.const (.bool true)), none⟩])
 (.ret)))))))
def r_impl_TurningPeriods : List ARes := [.tmp 2, .tmp 3]
theorem ok_impl_TurningPeriods : FnOk Try.prog 17 42 c_impl_TurningPeriods r_impl_TurningPeriods := ⟨⟨Try.f17, _, Try.func17, by kernel_rfl, rfl, rfl, by kernel_rfl, by kernel_rfl⟩⟩
def c_impl_IsCase : ACode := .seq (.reg [⟨(some 1), .box 26 (.tmp 0), none⟩,
  ⟨(some 2), .mv (.const (.bool false)), none⟩])
 (.seq (.reg [⟨(some 4), .fad 0 (.tmp 1), none⟩,
  ⟨(some 5), .ld none (.tmp 4), none⟩,
  ⟨(some 6), .len (.tmp 5), none⟩,
  ⟨(some 3), .mv (.tmp 6), none⟩])
 (.seq (.reg [⟨(some 7), .mv (.tmp 3), none⟩,
  ⟨(some 8), .bin .leq (.tmp 7) (.const (.int .i64 8)), none⟩,
  ⟨(some 9), .mv (.tmp 8), none⟩,
  ⟨(some 10), .fad 0 (.tmp 1), (some (9, true))⟩,
  ⟨(some 11), .ld none (.tmp 10), (some (9, true))⟩,
  ⟨(some 12), .mv (.tmp 3), (some (9, true))⟩,
  ⟨(some 13), .call (.func 34) [(.tmp 11), (.tmp 12), (.const (.int .i64 20))], (some (9, true))⟩,
  ⟨(some 14), .pick (.tmp 9) (.tmp 13) (.const (.bool false)), none⟩,
  ⟨(some 15), .mv (.tmp 14), none⟩,
  ⟨(some 16), .fad 1 (.tmp 1), (some (15, true))⟩,
  ⟨(some 17), .ld none (.tmp 16), (some (15, true))⟩,
  ⟨(some 18), .mv (.tmp 3), (some (15, true))⟩,
  ⟨(some 19), .call (.func 34) [(.tmp 17), (.tmp 18), (.const (.int .i64 99))], (some (15, true))⟩,
  ⟨(some 20), .pick (.tmp 15) (.tmp 19) (.const (.bool false)), none⟩,
  ⟨(some 21), .mv (.tmp 20), none⟩,
  ⟨(some 22), .fad 2 (.tmp 1), (some (21, true))⟩,
  ⟨(some 23), .ld none (.tmp 22), (some (21, true))⟩,
  ⟨(some 24), .mv (.tmp 3), (some (21, true))⟩,
  ⟨(some 25), .call (.func 34) [(.tmp 23), (.tmp 24), (.const (.int .i64 9))], (some (21, true))⟩,
  ⟨(some 26), .pick (.tmp 21) (.tmp 25) (.const (.bool false)), none⟩,
  ⟨(some 27), .mv (.tmp 26), none⟩,
  ⟨(some 28), .fad 3 (.tmp 1), (some (27, true))⟩,
  ⟨(some 29), .ld none (.tmp 28), (some (27, true))⟩,
  ⟨(some 30), .mv (.tmp 3), (some (27, true))⟩,
  ⟨(some 31), .call (.func 34) [(.tmp 29), (.tmp 30), (.const (.int .i64 9))], (some (27, true))⟩,
  ⟨(some 32), .pick (.tmp 27) (.tmp 31) (.const (.bool false)), none⟩,
  ⟨(some 2), .mv (.tmp 32), none⟩])
 (.ret)))
def r_impl_IsCase : List ARes := [.tmp 2]
theorem ok_impl_IsCase : FnOk Try.prog 20 33 c_impl_IsCase r_impl_IsCase := ⟨⟨Try.f20, _, Try.func20, by kernel_rfl, rfl, rfl, by kernel_rfl, by kernel_rfl⟩⟩
def c_impl_forwardTable : ACode := .seq (.reg [⟨(some 1), .box 26 (.tmp 0), none⟩,
  ⟨(some 2), .mv (.const (.slice none 0 0)), none⟩,
  ⟨(some 3), .mv (.const (.slice none 0 0)), none⟩])
 (.seq (.reg [⟨(some 11), .bsl 3 1 1 [(.int .i64 0)] [(0, 1, (.const (.int .i64 0)))], none⟩,
  ⟨(some 4), .mv (.tmp 11), none⟩])
 (.seq (.reg [⟨(some 12), .bsl 3 1 0 [] [], none⟩,
  ⟨(some 5), .mv (.tmp 12), none⟩])
 (.seq (.seq (.reg [⟨(some 6), .mv (.const (.int .i64 1)), none⟩])
 (.block 0 (.loop (.seq (.seq (.reg [⟨(some 13), .mv (.tmp 6), none⟩,
  ⟨(some 14), .fad 0 (.tmp 1), none⟩,
  ⟨(some 15), .ld none (.tmp 14), none⟩,
  ⟨(some 16), .len (.tmp 15), none⟩,
  ⟨(some 17), .bin .leq (.tmp 13) (.tmp 16), none⟩])
 (.cond (.tmp 17) (.skip) (.exit 0)))
 (.seq (.block 1 (.seq (.reg [⟨(some 20), .ld (some 4) (.tmp 1), none⟩,
  ⟨(some 21), .mv (.tmp 6), none⟩,
  ⟨(some 22), .call (.func 35) [(.tmp 20), (.const (.int .i64 0)), (.tmp 21)], none⟩,
  ⟨(some 7), .mv (.tmp 22), none⟩,
  ⟨(some 8), .mv (.const (.int .i64 0)), none⟩])
 (.seq (.seq (.reg [⟨(some 9), .mv (.const (.int .i64 1)), none⟩])
 (.block 2 (.loop (.seq (.seq (.reg [⟨(some 23), .mv (.tmp 9), none⟩,
  ⟨(some 24), .mv (.tmp 6), none⟩,
  ⟨(some 25), .bin .lss (.tmp 23) (.tmp 24), none⟩])
 (.cond (.tmp 25) (.skip) (.exit 2)))
 (.seq (.block 3 (.seq (.reg [⟨(some 28), .mv (.tmp 4), none⟩,
  ⟨(some 29), .mv (.tmp 9), none⟩,
  ⟨(some 30), .iad 1 (.tmp 28) (.tmp 29), none⟩,
  ⟨(some 31), .ld none (.tmp 30), none⟩,
  ⟨(some 32), .ld (some 4) (.tmp 1), none⟩,
  ⟨(some 33), .mv (.tmp 9), none⟩,
  ⟨(some 34), .mv (.tmp 6), none⟩,
  ⟨(some 35), .rcall (.func 35) [(.tmp 32), (.tmp 33), (.tmp 34)], none⟩,
  ⟨(some 36), .bin .add (.tmp 31) (.tmp 35), none⟩,
  ⟨(some 10), .mv (.tmp 36), none⟩])
 (.seq (.reg [⟨(some 37), .mv (.tmp 10), none⟩,
  ⟨(some 38), .mv (.tmp 7), none⟩,
  ⟨(some 39), .bin .leq (.tmp 37) (.tmp 38), none⟩])
 (.cond (.tmp 39) (.reg [⟨(some 40), .mv (.tmp 10), none⟩,
  ⟨(some 41), .mv (.tmp 9), none⟩,
  ⟨(some 7), .mv (.tmp 40), none⟩,
  ⟨(some 8), .mv (.tmp 41), none⟩]) (.skip)))))
 (.reg [⟨(some 26), .mv (.tmp 9), none⟩,
  ⟨(some 27), .bin .add (.tmp 26) (.const (.int .i64 1)), none⟩,
  ⟨(some 9), .mv (.tmp 27), none⟩]))))))
 (.seq (.reg [⟨(some 42), .mv (.tmp 4), none⟩,
  ⟨(some 43), .mv (.tmp 7), none⟩,
  ⟨(some 44), .bsl 3 1 1 [(.int .i64 0)] [(0, 1, (.tmp 43))], none⟩,
  ⟨(some 45), .app 3 1 8 (.tmp 42) (.tmp 44), none⟩,
  ⟨(some 4), .mv (.tmp 45), none⟩])
 (.reg [⟨(some 46), .mv (.tmp 5), none⟩,
  ⟨(some 47), .mv (.tmp 8), none⟩,
  ⟨(some 48), .bsl 3 1 1 [(.int .i64 0)] [(0, 1, (.tmp 47))], none⟩,
  ⟨(some 49), .app 3 1 8 (.tmp 46) (.tmp 48), none⟩,
  ⟨(some 5), .mv (.tmp 49), none⟩])))))
 (.reg [⟨(some 18), .mv (.tmp 6), none⟩,
  ⟨(some 19), .bin .add (.tmp 18) (.const (.int .i64 1)), none⟩,
  ⟨(some 6), .mv (.tmp 19), none⟩]))))))
 (.seq (.reg [⟨(some 50), .mv (.tmp 4), none⟩,
  ⟨(some 51), .mv (.tmp 5), none⟩,
  ⟨(some 2), .mv (.tmp 50), none⟩,
  ⟨(some 3), .mv (.tmp 51), none⟩])
 (.ret)))))
def r_impl_forwardTable : List ARes := [.tmp 2, .tmp 3]
theorem ok_impl_forwardTable : FnOk Try.prog 21 52 c_impl_forwardTable r_impl_forwardTable := ⟨⟨Try.f21, _, Try.func21, by kernel_rfl, rfl, rfl, by kernel_rfl, by kernel_rfl⟩⟩
def c_spec_l2Good : ACode := .seq (.reg [⟨(some 1), .box 26 (.tmp 0), none⟩,
  ⟨(some 2), .mv (.const (.bool false)), none⟩])
 (.seq (.reg [⟨(some 4), .fad 0 (.tmp 1), none⟩,
  ⟨(some 5), .ld none (.tmp 4), none⟩,
  ⟨(some 6), .len (.tmp 5), none⟩,
  ⟨(some 3), .mv (.tmp 6), none⟩])
 (.seq (.reg [⟨(some 7), .mv (.tmp 3), none⟩,
  ⟨(some 8), .bin .leq (.tmp 7) (.const (.int .i64 8)), none⟩,
  ⟨(some 9), .mv (.tmp 8), none⟩,
  ⟨(some 10), .fad 0 (.tmp 1), (some (9, true))⟩,
  ⟨(some 11), .ld none (.tmp 10), (some (9, true))⟩,
  ⟨(some 12), .mv (.tmp 3), (some (9, true))⟩,
  ⟨(some 13), .call (.func 36) [(.tmp 11), (.tmp 12), (.const (.int .i64 20))], (some (9, true))⟩,
  ⟨(some 14), .pick (.tmp 9) (.tmp 13) (.const (.bool false)), none⟩,
  ⟨(some 15), .mv (.tmp 14), none⟩,
  ⟨(some 16), .fad 1 (.tmp 1), (some (15, true))⟩,
  ⟨(some 17), .ld none (.tmp 16), (some (15, true))⟩,
  ⟨(some 18), .mv (.tmp 3), (some (15, true))⟩,
  ⟨(some 19), .call (.func 36) [(.tmp 17), (.tmp 18), (.const (.int .i64 99))], (some (15, true))⟩,
  ⟨(some 20), .pick (.tmp 15) (.tmp 19) (.const (.bool false)), none⟩,
  ⟨(some 21), .mv (.tmp 20), none⟩,
  ⟨(some 22), .fad 2 (.tmp 1), (some (21, true))⟩,
  ⟨(some 23), .ld none (.tmp 22), (some (21, true))⟩,
  ⟨(some 24), .mv (.tmp 3), (some (21, true))⟩,
  ⟨(some 25), .call (.func 36) [(.tmp 23), (.tmp 24), (.const (.int .i64 9))], (some (21, true))⟩,
  ⟨(some 26), .pick (.tmp 21) (.tmp 25) (.const (.bool false)), none⟩,
  ⟨(some 27), .mv (.tmp 26), none⟩,
  ⟨(some 28), .fad 3 (.tmp 1), (some (27, true))⟩,
  ⟨(some 29), .ld none (.tmp 28), (some (27, true))⟩,
  ⟨(some 30), .mv (.tmp 3), (some (27, true))⟩,
  ⟨(some 31), .call (.func 36) [(.tmp 29), (.tmp 30), (.const (.int .i64 9))], (some (27, true))⟩,
  ⟨(some 32), .pick (.tmp 27) (.tmp 31) (.const (.bool false)), none⟩,
  ⟨(some 2), .mv (.tmp 32), none⟩])
 (.ret)))
def r_spec_l2Good : List ARes := [.tmp 2]
theorem ok_spec_l2Good : FnOk Try.prog 22 33 c_spec_l2Good r_spec_l2Good := ⟨⟨Try.f22, _, Try.func22, by kernel_rfl, rfl, rfl, by kernel_rfl, by kernel_rfl⟩⟩
def c_spec_l3Forward : ACode := .seq (.reg [⟨(some 1), .box 26 (.tmp 0), none⟩,
  ⟨(some 2), .mv (.const (.slice none 0 0)), none⟩,
  ⟨(some 3), .mv (.const (.slice none 0 0)), none⟩])
 (.seq (.reg [⟨(some 9), .bsl 3 1 1 [(.int .i64 0)] [(0, 1, (.const (.int .i64 0)))], none⟩,
  ⟨(some 10), .bsl 3 1 0 [] [], none⟩,
  ⟨(some 4), .mv (.tmp 9), none⟩,
  ⟨(some 5), .mv (.tmp 10), none⟩])
 (.seq (.seq (.reg [⟨(some 6), .mv (.const (.int .i64 1)), none⟩])
 (.block 0 (.loop (.seq (.seq (.reg [⟨(some 11), .mv (.tmp 6), none⟩,
  ⟨(some 12), .fad 0 (.tmp 1), none⟩,
  ⟨(some 13), .ld none (.tmp 12), none⟩,
  ⟨(some 14), .len (.tmp 13), none⟩,
  ⟨(some 15), .bin .leq (.tmp 11) (.tmp 14), none⟩])
 (.cond (.tmp 15) (.skip) (.exit 0)))
 (.seq (.block 1 (.seq (.reg [⟨(some 7), .mv (.const (.int .i64 0)), none⟩])
 (.seq (.seq (.reg [⟨(some 8), .mv (.const (.int .i64 1)), none⟩])
 (.block 2 (.loop (.seq (.seq (.reg [⟨(some 18), .mv (.tmp 8), none⟩,
  ⟨(some 19), .mv (.tmp 6), none⟩,
  ⟨(some 20), .bin .lss (.tmp 18) (.tmp 19), none⟩])
 (.cond (.tmp 20) (.skip) (.exit 2)))
 (.seq (.block 3 (.seq (.reg [⟨(some 23), .mv (.tmp 4), none⟩,
  ⟨(some 24), .mv (.tmp 8), none⟩,
  ⟨(some 25), .iad 1 (.tmp 23) (.tmp 24), none⟩,
  ⟨(some 26), .ld none (.tmp 25), none⟩,
  ⟨(some 27), .ld (some 4) (.tmp 1), none⟩,
  ⟨(some 28), .mv (.tmp 8), none⟩,
  ⟨(some 29), .mv (.tmp 6), none⟩,
  ⟨(some 32), .mv (.tmp 4), none⟩,
  ⟨(some 33), .mv (.tmp 7), none⟩,
  ⟨(some 34), .iad 1 (.tmp 32) (.tmp 33), none⟩,
  ⟨(some 35), .ld none (.tmp 34), none⟩,
  ⟨(some 36), .ld (some 4) (.tmp 1), none⟩,
  ⟨(some 37), .mv (.tmp 7), none⟩,
  ⟨(some 38), .mv (.tmp 6), none⟩,
  ⟨(some 30), .rcall (.func 37) [(.tmp 27), (.tmp 28), (.tmp 29)], none⟩,
  ⟨(some 31), .bin .add (.tmp 26) (.tmp 30), none⟩,
  ⟨(some 39), .rcall (.func 37) [(.tmp 36), (.tmp 37), (.tmp 38)], none⟩,
  ⟨(some 40), .bin .add (.tmp 35) (.tmp 39), none⟩,
  ⟨(some 41), .bin .leq (.tmp 31) (.tmp 40), none⟩])
 (.cond (.tmp 41) (.reg [⟨(some 42), .mv (.tmp 8), none⟩,
  ⟨(some 7), .mv (.tmp 42), none⟩]) (.skip))))
 (.reg [⟨(some 21), .mv (.tmp 8), none⟩,
  ⟨(some 22), .bin .add (.tmp 21) (.const (.int .i64 1)), none⟩,
  ⟨(some 8), .mv (.tmp 22), none⟩]))))))
 (.seq (.reg [⟨(some 43), .mv (.tmp 4), none⟩,
  ⟨(some 44), .mv (.tmp 4), none⟩,
  ⟨(some 45), .mv (.tmp 7), none⟩,
  ⟨(some 46), .iad 1 (.tmp 44) (.tmp 45), none⟩,
  ⟨(some 47), .ld none (.tmp 46), none⟩,
  ⟨(some 48), .ld (some 4) (.tmp 1), none⟩,
  ⟨(some 49), .mv (.tmp 7), none⟩,
  ⟨(some 50), .mv (.tmp 6), none⟩,
  ⟨(some 51), .rcall (.func 37) [(.tmp 48), (.tmp 49), (.tmp 50)], none⟩,
  ⟨(some 52), .bin .add (.tmp 47) (.tmp 51), none⟩,
  ⟨(some 53), .bsl 3 1 1 [(.int .i64 0)] [(0, 1, (.tmp 52))], none⟩,
  ⟨(some 54), .app 3 1 8 (.tmp 43) (.tmp 53), none⟩,
  ⟨(some 4), .mv (.tmp 54), none⟩])
 (.reg [⟨(some 55), .mv (.tmp 5), none⟩,
  ⟨(some 56), .mv (.tmp 7), none⟩,
  ⟨(some 57), .bsl 3 1 1 [(.int .i64 0)] [(0, 1, (.tmp 56))], none⟩,
  ⟨(some 58), .app 3 1 8 (.tmp 55) (.tmp 57), none⟩,
  ⟨(some 5), .mv (.tmp 58), none⟩])))))
 (.reg [⟨(some 16), .mv (.tmp 6), none⟩,
  ⟨(some 17), .bin .add (.tmp 16) (.const (.int .i64 1)), none⟩,
  ⟨(some 6), .mv (.tmp 17), none⟩]))))))
 (.seq (.reg [⟨(some 59), .mv (.tmp 4), none⟩,
  ⟨(some 60), .mv (.tmp 5), none⟩,
  ⟨(some 2), .mv (.tmp 59), none⟩,
  ⟨(some 3), .mv (.tmp 60), none⟩])
 (.ret))))
def r_spec_l3Forward : List ARes := [.tmp 2, .tmp 3]
theorem ok_spec_l3Forward : FnOk Try.prog 23 61 c_spec_l3Forward r_spec_l3Forward := ⟨⟨Try.f23, _, Try.func23, by kernel_rfl, rfl, rfl, by kernel_rfl, by kernel_rfl⟩⟩
def c_impl_sumOf : ACode := .seq (.reg [⟨(some 2), .mv (.const (.int .i64 0)), none⟩])
 (.seq (.reg [⟨(some 3), .mv (.const (.int .i64 0)), none⟩])
 (.seq (.seq (.reg [⟨(some 6), .mv (.tmp 0), none⟩,
  ⟨(some 7), .len (.tmp 6), none⟩,
  ⟨(some 8), .mv (.const (.int .i64 0)), none⟩])
 (.block 0 (.loop (.seq (.reg [⟨(some 9), .bin .lss (.tmp 8) (.tmp 7), none⟩])
 (.seq (.cond (.tmp 9) (.skip) (.exit 0))
 (.seq (.block 1 (.seq (.reg [⟨(some 10), .iad 1 (.tmp 6) (.tmp 8), none⟩,
  ⟨(some 11), .ld none (.tmp 10), none⟩,
  ⟨(some 5), .mv (.tmp 11), none⟩])
 (.reg [⟨(some 12), .mv (.tmp 3), none⟩,
  ⟨(some 13), .mv (.tmp 5), none⟩,
  ⟨(some 14), .bin .add (.tmp 12) (.tmp 13), none⟩,
  ⟨(some 3), .mv (.tmp 14), none⟩])))
 (.reg [⟨(some 15), .bin .add (.tmp 8) (.const (.int .i64 1)), none⟩,
  ⟨(some 8), .mv (.tmp 15), none⟩])))))))
 (.seq (.reg [⟨(some 16), .mv (.tmp 3), none⟩,
  ⟨(some 2), .mv (.tmp 16), none⟩])
 (.ret))))
def r_impl_sumOf : List ARes := [.tmp 2]
theorem ok_impl_sumOf : FnOk Try.prog 24 17 c_impl_sumOf r_impl_sumOf := ⟨⟨Try.f24, _, Try.func24, by kernel_rfl, rfl, rfl, by kernel_rfl, by kernel_rfl⟩⟩
def c_spec_l3Asks : ACode := .seq (.reg [⟨(some 3), .box 26 (.tmp 0), none⟩,
  ⟨(some 6), .mv (.const (.bool false)), none⟩])
 (.seq (.reg [⟨(some 7), .fad 0 (.tmp 3), none⟩,
  ⟨(some 8), .ld none (.tmp 7), none⟩,
  ⟨(some 9), .mv (.tmp 1), none⟩,
  ⟨(some 10), .mv (.tmp 2), none⟩,
  ⟨(some 11), .slc 1 (.tmp 8) (some (.tmp 9)) (some (.tmp 10)), none⟩,
  ⟨(some 12), .call (.func 38) [(.tmp 11)], none⟩,
  ⟨(some 13), .bin .gtr (.tmp 12) (.const (.int .i64 0)), none⟩,
  ⟨(some 6), .mv (.tmp 13), none⟩])
 (.ret))
def r_spec_l3Asks : List ARes := [.tmp 6]
theorem ok_spec_l3Asks : FnOk Try.prog 25 14 c_spec_l3Asks r_spec_l3Asks := ⟨⟨Try.f25, _, Try.func25, by kernel_rfl, rfl, rfl, by kernel_rfl, by kernel_rfl⟩⟩
def c_impl_isAscending : ACode := .seq (.reg [⟨(some 4), .mv (.const (.bool false)), none⟩])
 (.seq (.reg [⟨(some 5), .mv (.const (.int .i64 0)), none⟩])
 (.seq (.seq (.reg [⟨(some 8), .mv (.tmp 0), none⟩,
  ⟨(some 9), .len (.tmp 8), none⟩,
  ⟨(some 10), .mv (.const (.int .i64 0)), none⟩])
 (.block 0 (.loop (.seq (.reg [⟨(some 11), .bin .lss (.tmp 10) (.tmp 9), none⟩])
 (.seq (.cond (.tmp 11) (.skip) (.exit 0))
 (.seq (.block 1 (.seq (.reg [⟨(some 12), .iad 1 (.tmp 8) (.tmp 10), none⟩,
  ⟨(some 13), .ld none (.tmp 12), none⟩,
  ⟨(some 7), .mv (.tmp 13), none⟩])
 (.seq (.seq (.reg [⟨(some 14), .mv (.tmp 7), none⟩,
  ⟨(some 15), .mv (.tmp 5), none⟩,
  ⟨(some 16), .bin .lss (.tmp 14) (.tmp 15), none⟩,
  ⟨(some 17), .mv (.tmp 16), none⟩,
  ⟨(some 18), .mv (.tmp 7), (some (17, false))⟩,
  ⟨(some 19), .mv (.tmp 1), (some (17, false))⟩,
  ⟨(some 20), .bin .geq (.tmp 18) (.tmp 19), (some (17, false))⟩,
  ⟨(some 21), .pick (.tmp 17) (.const (.bool true)) (.tmp 20), none⟩])
 (.cond (.tmp 21) (.seq (.reg [⟨(some 4), .mv (.const (.bool false)), none⟩])
 (.ret)) (.skip)))
 (.reg [⟨(some 22), .mv (.tmp 7), none⟩,
  ⟨(some 23), .bin .add (.tmp 22) (.const (.int .i64 1)), none⟩,
  ⟨(some 5), .mv (.tmp 23), none⟩]))))
 (.reg [⟨(some 24), .bin .add (.tmp 10) (.const (.int .i64 1)), none⟩,
  ⟨(some 10), .mv (.tmp 24), none⟩])))))))
 (.seq (.reg [⟨(some 4), .mv (.const (.bool true)), none⟩])
 (.ret))))
def r_impl_isAscending : List ARes := [.tmp 4]
theorem ok_impl_isAscending : FnOk Try.prog 26 25 c_impl_isAscending r_impl_isAscending := ⟨⟨Try.f26, _, Try.func26, by kernel_rfl, rfl, rfl, by kernel_rfl, by kernel_rfl⟩⟩
def c_slices_Backward : ACode := .seq (.reg [⟨(some 1), .box 24 (.tmp 0), none⟩,
  ⟨(some 2), .mv (.const .nilFunc), none⟩])
 (.seq (.reg [⟨(some 3), .mkf 39 [] [(.tmp 1)], none⟩,
  ⟨(some 2), .mv (.tmp 3), none⟩])
 (.ret))
def r_slices_Backward : List ARes := [.tmp 2]
theorem ok_slices_Backward : FnOk Try.prog 27 4 c_slices_Backward r_slices_Backward := ⟨⟨Try.f27, _, Try.func27, by kernel_rfl, rfl, rfl, by kernel_rfl, by kernel_rfl⟩⟩
def c_impl_CostParts : ACode := .seq (.reg [⟨(some 2), .box 26 (.tmp 0), none⟩,
  ⟨(some 4), .mv (.const (.int .i64 0)), none⟩,
  ⟨(some 5), .mv (.const (.int .i64 0)), none⟩,
  ⟨(some 6), .mv (.const (.int .i64 0)), none⟩,
  ⟨(some 7), .mv (.const (.bool false)), none⟩])
 (.seq (.reg [⟨(some 16), .ld (some 4) (.tmp 2), none⟩,
  ⟨(some 17), .mv (.tmp 1), none⟩,
  ⟨(some 18), .call (.func 40) [(.tmp 16), (.tmp 17)], none⟩,
  ⟨(some 15), .mv (.tmp 18), none⟩,
  ⟨(some 19), .ext 0 (.tmp 15), none⟩,
  ⟨(some 20), .ext 1 (.tmp 15), none⟩,
  ⟨(some 8), .mv (.tmp 19), none⟩,
  ⟨(some 9), .mv (.tmp 20), none⟩])
 (.seq (.seq (.reg [⟨(some 21), .mv (.tmp 9), none⟩,
  ⟨(some 22), .un .not (.tmp 21), none⟩])
 (.cond (.tmp 22) (.seq (.reg [⟨(some 4), .mv (.const (.int .i64 0)), none⟩,
  ⟨(some 5), .mv (.const (.int .i64 0)), none⟩,
  ⟨(some 6), .mv (.const (.int .i64 0)), none⟩,
  ⟨(some 7), .mv (.const (.bool false)), none⟩])
 (.ret)) (.skip)))
 (.seq (.reg [⟨(some 10), .mv (.const (.int .i64 0)), none⟩,
  ⟨(some 11), .mv (.const (.int .i64 0)), none⟩,
  ⟨(some 12), .mv (.const (.int .i64 0)), none⟩])
 (.seq (.seq (.reg [⟨(some 23), .mv (.tmp 1), none⟩,
  ⟨(some 24), .len (.tmp 23), none⟩,
  ⟨(some 25), .mv (.const (.int .i64 0)), none⟩])
 (.block 0 (.loop (.seq (.reg [⟨(some 26), .bin .lss (.tmp 25) (.tmp 24), none⟩])
 (.seq (.cond (.tmp 26) (.skip) (.exit 0))
 (.seq (.block 1 (.seq (.reg [⟨(some 27), .mv (.tmp 25), none⟩,
  ⟨(some 28), .iad 1 (.tmp 23) (.tmp 25), none⟩,
  ⟨(some 29), .ld none (.tmp 28), none⟩,
  ⟨(some 13), .mv (.tmp 27), none⟩,
  ⟨(some 14), .mv (.tmp 29), none⟩])
 (.seq (.seq (.reg [⟨(some 30), .mv (.tmp 14), none⟩,
  ⟨(some 31), .bin .gtr (.tmp 30) (.const (.int .i64 0)), none⟩])
 (.cond (.tmp 31) (.reg [⟨(some 32), .mv (.tmp 10), none⟩,
  ⟨(some 33), .fad 1 (.tmp 2), none⟩,
  ⟨(some 34), .ld none (.tmp 33), none⟩,
  ⟨(some 35), .mv (.tmp 13), none⟩,
  ⟨(some 36), .iad 1 (.tmp 34) (.tmp 35), none⟩,
  ⟨(some 37), .ld none (.tmp 36), none⟩,
  ⟨(some 38), .bin .add (.tmp 32) (.tmp 37), none⟩,
  ⟨(some 10), .mv (.tmp 38), none⟩]) (.skip)))
 (.seq (.reg [⟨(some 39), .mv (.tmp 11), none⟩,
  ⟨(some 40), .fad 2 (.tmp 2), none⟩,
  ⟨(some 41), .ld none (.tmp 40), none⟩,
  ⟨(some 42), .mv (.tmp 13), none⟩,
  ⟨(some 43), .iad 1 (.tmp 41) (.tmp 42), none⟩,
  ⟨(some 44), .ld none (.tmp 43), none⟩,
  ⟨(some 45), .mv (.tmp 14), none⟩,
  ⟨(some 46), .bin .mul (.tmp 44) (.tmp 45), none⟩,
  ⟨(some 47), .bin .add (.tmp 39) (.tmp 46), none⟩,
  ⟨(some 11), .mv (.tmp 47), none⟩])
 (.reg [⟨(some 48), .mv (.tmp 12), none⟩,
  ⟨(some 49), .fad 3 (.tmp 2), none⟩,
  ⟨(some 50), .ld none (.tmp 49), none⟩,
  ⟨(some 51), .mv (.tmp 13), none⟩,
  ⟨(some 52), .iad 1 (.tmp 50) (.tmp 51), none⟩,
  ⟨(some 53), .ld none (.tmp 52), none⟩,
  ⟨(some 54), .mv (.tmp 8), none⟩,
  ⟨(some 55), .mv (.tmp 13), none⟩,
  ⟨(some 56), .iad 1 (.tmp 54) (.tmp 55), none⟩,
  ⟨(some 57), .ld none (.tmp 56), none⟩,
  ⟨(some 58), .bin .mul (.tmp 53) (.tmp 57), none⟩,
  ⟨(some 59), .bin .add (.tmp 48) (.tmp 58), none⟩,
  ⟨(some 12), .mv (.tmp 59), none⟩])))))
 (.reg [⟨(some 60), .bin .add (.tmp 25) (.const (.int .i64 1)), none⟩,
  ⟨(some 25), .mv (.tmp 60), none⟩])))))))
 (.seq (.reg [⟨(some 61), .mv (.tmp 10), none⟩,
  ⟨(some 62), .mv (.tmp 11), none⟩,
  ⟨(some 63), .mv (.tmp 12), none⟩,
  ⟨(some 4), .mv (.tmp 61), none⟩,
  ⟨(some 5), .mv (.tmp 62), none⟩,
  ⟨(some 6), .mv (.tmp 63), none⟩,
  ⟨(some 7), .mv (.const (.bool true)), none⟩])
 (.ret))))))
def r_impl_CostParts : List ARes := [.tmp 4, .tmp 5, .tmp 6, .tmp 7]
theorem ok_impl_CostParts : FnOk Try.prog 28 64 c_impl_CostParts r_impl_CostParts := ⟨⟨Try.f28, _, Try.func28, by kernel_rfl, rfl, rfl, by kernel_rfl, by kernel_rfl⟩⟩
def c_impl_bestLots : ACode := .seq (.reg [⟨(some 1), .box 26 (.tmp 0), none⟩,
  ⟨(some 2), .alc 49 [(.int .i64 0), (.slice none 0 0)], none⟩])
 (.seq (.reg [⟨(some 7), .ld (some 4) (.tmp 1), none⟩,
  ⟨(some 8), .call (.func 41) [(.tmp 7)], none⟩,
  ⟨(some 3), .mv (.tmp 8), none⟩])
 (.seq (.reg [⟨(some 9), .mv (.tmp 3), none⟩,
  ⟨(some 10), .call (.tmp 9) [(.const (.int .i64 0))], none⟩,
  ⟨(some 4), .alc 49 [(.int .i64 0), (.slice none 0 0)], none⟩,
  ⟨none, .st 2 (.tmp 4) (.tmp 10), none⟩])
 (.seq (.seq (.reg [⟨(some 5), .mv (.const (.int .i64 0)), none⟩])
 (.block 0 (.loop (.seq (.seq (.reg [⟨(some 11), .mv (.tmp 5), none⟩,
  ⟨(some 12), .fad 0 (.tmp 1), none⟩,
  ⟨(some 13), .ld none (.tmp 12), none⟩,
  ⟨(some 14), .len (.tmp 13), none⟩,
  ⟨(some 15), .bin .lss (.tmp 11) (.tmp 14), none⟩,
  ⟨(some 16), .mv (.tmp 15), none⟩,
  ⟨(some 17), .fad 0 (.tmp 1), (some (16, true))⟩,
  ⟨(some 18), .ld none (.tmp 17), (some (16, true))⟩,
  ⟨(some 19), .mv (.tmp 5), (some (16, true))⟩,
  ⟨(some 20), .iad 1 (.tmp 18) (.tmp 19), (some (16, true))⟩,
  ⟨(some 21), .ld none (.tmp 20), (some (16, true))⟩,
  ⟨(some 22), .bin .eql (.tmp 21) (.const (.int .i64 0)), (some (16, true))⟩,
  ⟨(some 23), .pick (.tmp 16) (.tmp 22) (.const (.bool false)), none⟩])
 (.cond (.tmp 23) (.skip) (.exit 0)))
 (.seq (.block 1 (.seq (.reg [⟨(some 26), .mv (.tmp 3), none⟩,
  ⟨(some 27), .mv (.tmp 5), none⟩,
  ⟨(some 28), .bin .add (.tmp 27) (.const (.int .i64 1)), none⟩,
  ⟨(some 29), .call (.tmp 26) [(.tmp 28)], none⟩,
  ⟨(some 6), .alc 49 [(.int .i64 0), (.slice none 0 0)], none⟩,
  ⟨none, .st 2 (.tmp 6) (.tmp 29), none⟩])
 (.seq (.reg [⟨(some 30), .ld (some 2) (.tmp 6), none⟩,
  ⟨(some 31), .ld (some 2) (.tmp 4), none⟩,
  ⟨(some 32), .call (.func 42) [(.tmp 30), (.tmp 31)], none⟩])
 (.cond (.tmp 32) (.reg [⟨(some 33), .ld (some 2) (.tmp 6), none⟩,
  ⟨none, .st 2 (.tmp 4) (.tmp 33), none⟩]) (.skip)))))
 (.reg [⟨(some 24), .mv (.tmp 5), none⟩,
  ⟨(some 25), .bin .add (.tmp 24) (.const (.int .i64 1)), none⟩,
  ⟨(some 5), .mv (.tmp 25), none⟩]))))))
 (.seq (.reg [⟨(some 34), .ld (some 2) (.tmp 4), none⟩,
  ⟨none, .st 2 (.tmp 2) (.tmp 34), none⟩])
 (.ret)))))
def r_impl_bestLots : List ARes := [.cell 2 (some 2)]
theorem ok_impl_bestLots : FnOk Try.prog 29 35 c_impl_bestLots r_impl_bestLots := ⟨⟨Try.f29, _, Try.func29, by kernel_rfl, rfl, rfl, by kernel_rfl, by kernel_rfl⟩⟩
def c_impl_backwardTable : ACode := .seq (.reg [⟨(some 1), .box 26 (.tmp 0), none⟩,
  ⟨(some 2), .mv (.const (.slice none 0 0)), none⟩])
 (.seq (.reg [⟨(some 7), .fad 0 (.tmp 1), none⟩,
  ⟨(some 8), .ld none (.tmp 7), none⟩,
  ⟨(some 9), .len (.tmp 8), none⟩,
  ⟨(some 3), .mv (.tmp 9), none⟩])
 (.seq (.reg [⟨(some 10), .mv (.tmp 3), none⟩,
  ⟨(some 11), .bin .add (.tmp 10) (.const (.int .i64 1)), none⟩,
  ⟨(some 12), .mks 3 8 [(.int .i64 0)] (.tmp 11) (.tmp 11), none⟩,
  ⟨(some 4), .mv (.tmp 12), none⟩])
 (.seq (.seq (.reg [⟨(some 13), .mv (.tmp 3), none⟩,
  ⟨(some 14), .bin .sub (.tmp 13) (.const (.int .i64 1)), none⟩,
  ⟨(some 5), .mv (.tmp 14), none⟩])
 (.block 0 (.loop (.seq (.seq (.reg [⟨(some 15), .mv (.tmp 5), none⟩,
  ⟨(some 16), .bin .geq (.tmp 15) (.const (.int .i64 0)), none⟩])
 (.cond (.tmp 16) (.skip) (.exit 0)))
 (.seq (.block 1 (.seq (.reg [⟨(some 19), .mv (.tmp 4), none⟩,
  ⟨(some 20), .mv (.tmp 5), none⟩,
  ⟨(some 21), .ld (some 4) (.tmp 1), none⟩,
  ⟨(some 22), .mv (.tmp 5), none⟩,
  ⟨(some 23), .mv (.tmp 3), none⟩,
  ⟨(some 24), .call (.func 35) [(.tmp 21), (.tmp 22), (.tmp 23)], none⟩,
  ⟨(some 25), .iad 1 (.tmp 19) (.tmp 20), none⟩,
  ⟨none, .st 1 (.tmp 25) (.tmp 24), none⟩])
 (.seq (.reg [⟨(some 26), .mv (.tmp 5), none⟩,
  ⟨(some 27), .bin .add (.tmp 26) (.const (.int .i64 1)), none⟩,
  ⟨(some 6), .mv (.tmp 27), none⟩])
 (.block 2 (.loop (.seq (.seq (.reg [⟨(some 28), .mv (.tmp 6), none⟩,
  ⟨(some 29), .mv (.tmp 3), none⟩,
  ⟨(some 30), .bin .lss (.tmp 28) (.tmp 29), none⟩])
 (.cond (.tmp 30) (.skip) (.exit 2)))
 (.seq (.block 3 (.reg [⟨(some 33), .mv (.tmp 4), none⟩,
  ⟨(some 34), .mv (.tmp 5), none⟩,
  ⟨(some 35), .mv (.tmp 4), none⟩,
  ⟨(some 36), .mv (.tmp 5), none⟩,
  ⟨(some 37), .iad 1 (.tmp 35) (.tmp 36), none⟩,
  ⟨(some 38), .ld none (.tmp 37), none⟩,
  ⟨(some 39), .ld (some 4) (.tmp 1), none⟩,
  ⟨(some 40), .mv (.tmp 5), none⟩,
  ⟨(some 41), .mv (.tmp 6), none⟩,
  ⟨(some 43), .mv (.tmp 4), none⟩,
  ⟨(some 44), .mv (.tmp 6), none⟩,
  ⟨(some 45), .iad 1 (.tmp 43) (.tmp 44), none⟩,
  ⟨(some 46), .ld none (.tmp 45), none⟩,
  ⟨(some 42), .rcall (.func 35) [(.tmp 39), (.tmp 40), (.tmp 41)], none⟩,
  ⟨(some 47), .bin .add (.tmp 42) (.tmp 46), none⟩,
  ⟨(some 48), .mmx false (.tmp 38) (.tmp 47), none⟩,
  ⟨(some 49), .iad 1 (.tmp 33) (.tmp 34), none⟩,
  ⟨none, .st 1 (.tmp 49) (.tmp 48), none⟩]))
 (.reg [⟨(some 31), .mv (.tmp 6), none⟩,
  ⟨(some 32), .bin .add (.tmp 31) (.const (.int .i64 1)), none⟩,
  ⟨(some 6), .mv (.tmp 32), none⟩]))))))))
 (.reg [⟨(some 17), .mv (.tmp 5), none⟩,
  ⟨(some 18), .bin .sub (.tmp 17) (.const (.int .i64 1)), none⟩,
  ⟨(some 5), .mv (.tmp 18), none⟩]))))))
 (.seq (.reg [⟨(some 50), .mv (.tmp 4), none⟩,
  ⟨(some 2), .mv (.tmp 50), none⟩])
 (.ret)))))
def r_impl_backwardTable : List ARes := [.tmp 2]
theorem ok_impl_backwardTable : FnOk Try.prog 30 51 c_impl_backwardTable r_impl_backwardTable := ⟨⟨Try.f30, _, Try.func30, by kernel_rfl, rfl, rfl, by kernel_rfl, by kernel_rfl⟩⟩
def c_impl_periodsWith : ACode := .seq (.reg [⟨(some 4), .mv (.const (.slice none 0 0)), none⟩])
 (.seq (.reg [⟨(some 8), .bsl 3 1 0 [] [], none⟩,
  ⟨(some 5), .mv (.tmp 8), none⟩])
 (.seq (.seq (.reg [⟨(some 9), .mv (.tmp 0), none⟩,
  ⟨(some 10), .len (.tmp 9), none⟩,
  ⟨(some 11), .mv (.const (.int .i64 0)), none⟩])
 (.block 0 (.loop (.seq (.reg [⟨(some 12), .bin .lss (.tmp 11) (.tmp 10), none⟩])
 (.seq (.cond (.tmp 12) (.skip) (.exit 0))
 (.seq (.block 1 (.seq (.reg [⟨(some 13), .mv (.tmp 11), none⟩,
  ⟨(some 14), .iad 1 (.tmp 9) (.tmp 11), none⟩,
  ⟨(some 15), .ld none (.tmp 14), none⟩,
  ⟨(some 6), .mv (.tmp 13), none⟩,
  ⟨(some 7), .mv (.tmp 15), none⟩])
 (.seq (.reg [⟨(some 16), .mv (.tmp 1), none⟩,
  ⟨(some 17), .mv (.tmp 7), none⟩,
  ⟨(some 18), .call (.tmp 16) [(.tmp 17)], none⟩])
 (.cond (.tmp 18) (.reg [⟨(some 19), .mv (.tmp 5), none⟩,
  ⟨(some 20), .mv (.tmp 6), none⟩,
  ⟨(some 21), .bsl 3 1 1 [(.int .i64 0)] [(0, 1, (.tmp 20))], none⟩,
  ⟨(some 22), .app 3 1 8 (.tmp 19) (.tmp 21), none⟩,
  ⟨(some 5), .mv (.tmp 22), none⟩]) (.skip)))))
 (.reg [⟨(some 23), .bin .add (.tmp 11) (.const (.int .i64 1)), none⟩,
  ⟨(some 11), .mv (.tmp 23), none⟩])))))))
 (.seq (.reg [⟨(some 24), .mv (.tmp 5), none⟩,
  ⟨(some 4), .mv (.tmp 24), none⟩])
 (.ret))))
def r_impl_periodsWith : List ARes := [.tmp 4]
theorem ok_impl_periodsWith : FnOk Try.prog 31 25 c_impl_periodsWith r_impl_periodsWith := ⟨⟨Try.f31, _, Try.func31, by kernel_rfl, rfl, rfl, by kernel_rfl, by kernel_rfl⟩⟩
def c_impl_TurningPeriods_1 : ACode := .seq (.reg [⟨(some 3), .mv (.const (.bool false)), none⟩])
 (.seq (.reg [⟨(some 4), .mv (.tmp 0), none⟩,
  ⟨(some 5), .ld none (.tmp 1), none⟩,
  ⟨(some 6), .bin .eql (.tmp 4) (.tmp 5), none⟩,
  ⟨(some 3), .mv (.tmp 6), none⟩])
 (.ret))
def r_impl_TurningPeriods_1 : List ARes := [.tmp 3]
theorem ok_impl_TurningPeriods_1 : FnOk Try.prog 32 7 c_impl_TurningPeriods_1 r_impl_TurningPeriods_1 := ⟨⟨Try.f32, _, Try.func32, by kernel_rfl, rfl, rfl, by kernel_rfl, by kernel_rfl⟩⟩
def c_impl_isRow : ACode := .seq (.reg [⟨(some 5), .box 3 (.tmp 2), none⟩,
  ⟨(some 6), .mv (.const (.bool false)), none⟩])
 (.seq (.reg [⟨(some 8), .mkf 44 [] [(.tmp 5)], none⟩,
  ⟨(some 7), .mv (.tmp 8), none⟩])
 (.seq (.reg [⟨(some 9), .mv (.tmp 0), none⟩,
  ⟨(some 10), .len (.tmp 9), none⟩,
  ⟨(some 11), .mv (.tmp 1), none⟩,
  ⟨(some 12), .bin .eql (.tmp 10) (.tmp 11), none⟩,
  ⟨(some 13), .mv (.tmp 12), none⟩,
  ⟨(some 14), .mv (.tmp 0), (some (13, true))⟩,
  ⟨(some 15), .mv (.tmp 7), (some (13, true))⟩,
  ⟨(some 16), .call (.func 46) [(.tmp 14), (.tmp 15)], (some (13, true))⟩,
  ⟨(some 17), .un .not (.tmp 16), (some (13, true))⟩,
  ⟨(some 18), .pick (.tmp 13) (.tmp 17) (.const (.bool false)), none⟩,
  ⟨(some 6), .mv (.tmp 18), none⟩])
 (.ret)))
def r_impl_isRow : List ARes := [.tmp 6]
theorem ok_impl_isRow : FnOk Try.prog 34 19 c_impl_isRow r_impl_isRow := ⟨⟨Try.f34, _, Try.func34, by kernel_rfl, rfl, rfl, by kernel_rfl, by kernel_rfl⟩⟩
def c_impl_orderCost : ACode := .seq (.reg [⟨(some 3), .box 26 (.tmp 0), none⟩,
  ⟨(some 6), .mv (.const (.int .i64 0)), none⟩])
 (.seq (.reg [⟨(some 10), .fad 0 (.tmp 3), none⟩,
  ⟨(some 11), .ld none (.tmp 10), none⟩,
  ⟨(some 12), .mv (.tmp 1), none⟩,
  ⟨(some 13), .mv (.tmp 2), none⟩,
  ⟨(some 14), .slc 1 (.tmp 11) (some (.tmp 12)) (some (.tmp 13)), none⟩,
  ⟨(some 15), .call (.func 24) [(.tmp 14)], none⟩,
  ⟨(some 7), .mv (.tmp 15), none⟩])
 (.seq (.seq (.reg [⟨(some 16), .mv (.tmp 7), none⟩,
  ⟨(some 17), .bin .eql (.tmp 16) (.const (.int .i64 0)), none⟩])
 (.cond (.tmp 17) (.seq (.reg [⟨(some 6), .mv (.const (.int .i64 0)), none⟩])
 (.ret)) (.skip)))
 (.seq (.reg [⟨(some 18), .fad 1 (.tmp 3), none⟩,
  ⟨(some 19), .ld none (.tmp 18), none⟩,
  ⟨(some 20), .mv (.tmp 1), none⟩,
  ⟨(some 21), .iad 1 (.tmp 19) (.tmp 20), none⟩,
  ⟨(some 22), .ld none (.tmp 21), none⟩,
  ⟨(some 23), .fad 2 (.tmp 3), none⟩,
  ⟨(some 24), .ld none (.tmp 23), none⟩,
  ⟨(some 25), .mv (.tmp 1), none⟩,
  ⟨(some 26), .iad 1 (.tmp 24) (.tmp 25), none⟩,
  ⟨(some 27), .ld none (.tmp 26), none⟩,
  ⟨(some 28), .mv (.tmp 7), none⟩,
  ⟨(some 29), .bin .mul (.tmp 27) (.tmp 28), none⟩,
  ⟨(some 30), .bin .add (.tmp 22) (.tmp 29), none⟩,
  ⟨(some 8), .mv (.tmp 30), none⟩])
 (.seq (.seq (.reg [⟨(some 31), .mv (.tmp 1), none⟩,
  ⟨(some 9), .mv (.tmp 31), none⟩])
 (.block 0 (.loop (.seq (.seq (.reg [⟨(some 32), .mv (.tmp 9), none⟩,
  ⟨(some 33), .mv (.tmp 2), none⟩,
  ⟨(some 34), .bin .lss (.tmp 32) (.tmp 33), none⟩])
 (.cond (.tmp 34) (.skip) (.exit 0)))
 (.seq (.block 1 (.seq (.reg [⟨(some 37), .mv (.tmp 7), none⟩,
  ⟨(some 38), .fad 0 (.tmp 3), none⟩,
  ⟨(some 39), .ld none (.tmp 38), none⟩,
  ⟨(some 40), .mv (.tmp 9), none⟩,
  ⟨(some 41), .iad 1 (.tmp 39) (.tmp 40), none⟩,
  ⟨(some 42), .ld none (.tmp 41), none⟩,
  ⟨(some 43), .bin .sub (.tmp 37) (.tmp 42), none⟩,
  ⟨(some 7), .mv (.tmp 43), none⟩])
 (.reg [⟨(some 44), .mv (.tmp 8), none⟩,
  ⟨(some 45), .fad 3 (.tmp 3), none⟩,
  ⟨(some 46), .ld none (.tmp 45), none⟩,
  ⟨(some 47), .mv (.tmp 9), none⟩,
  ⟨(some 48), .iad 1 (.tmp 46) (.tmp 47), none⟩,
  ⟨(some 49), .ld none (.tmp 48), none⟩,
  ⟨(some 50), .mv (.tmp 7), none⟩,
  ⟨(some 51), .bin .mul (.tmp 49) (.tmp 50), none⟩,
  ⟨(some 52), .bin .add (.tmp 44) (.tmp 51), none⟩,
  ⟨(some 8), .mv (.tmp 52), none⟩])))
 (.reg [⟨(some 35), .mv (.tmp 9), none⟩,
  ⟨(some 36), .bin .add (.tmp 35) (.const (.int .i64 1)), none⟩,
  ⟨(some 9), .mv (.tmp 36), none⟩]))))))
 (.seq (.reg [⟨(some 53), .mv (.tmp 8), none⟩,
  ⟨(some 6), .mv (.tmp 53), none⟩])
 (.ret))))))
def r_impl_orderCost : List ARes := [.tmp 6]
theorem ok_impl_orderCost : FnOk Try.prog 35 54 c_impl_orderCost r_impl_orderCost := ⟨⟨Try.f35, _, Try.func35, by kernel_rfl, rfl, rfl, by kernel_rfl, by kernel_rfl⟩⟩
def c_spec_l2Row : ACode := .seq (.reg [⟨(some 6), .mv (.const (.bool false)), none⟩])
 (.seq (.seq (.reg [⟨(some 7), .mv (.const (.int .i64 0)), none⟩])
 (.block 0 (.loop (.seq (.seq (.reg [⟨(some 8), .mv (.tmp 7), none⟩,
  ⟨(some 9), .mv (.tmp 0), none⟩,
  ⟨(some 10), .len (.tmp 9), none⟩,
  ⟨(some 11), .bin .lss (.tmp 8) (.tmp 10), none⟩])
 (.cond (.tmp 11) (.skip) (.exit 0)))
 (.seq (.block 1 (.seq (.reg [⟨(some 14), .mv (.tmp 0), none⟩,
  ⟨(some 15), .mv (.tmp 7), none⟩,
  ⟨(some 16), .iad 1 (.tmp 14) (.tmp 15), none⟩,
  ⟨(some 17), .ld none (.tmp 16), none⟩,
  ⟨(some 18), .mv (.tmp 2), none⟩,
  ⟨(some 19), .call (.func 47) [(.tmp 17), (.const (.int .i64 0)), (.tmp 18)], none⟩,
  ⟨(some 20), .un .not (.tmp 19), none⟩])
 (.cond (.tmp 20) (.seq (.reg [⟨(some 6), .mv (.const (.bool false)), none⟩])
 (.ret)) (.skip))))
 (.reg [⟨(some 12), .mv (.tmp 7), none⟩,
  ⟨(some 13), .bin .add (.tmp 12) (.const (.int .i64 1)), none⟩,
  ⟨(some 7), .mv (.tmp 13), none⟩]))))))
 (.seq (.reg [⟨(some 21), .mv (.tmp 0), none⟩,
  ⟨(some 22), .len (.tmp 21), none⟩,
  ⟨(some 23), .mv (.tmp 1), none⟩,
  ⟨(some 24), .bin .eql (.tmp 22) (.tmp 23), none⟩,
  ⟨(some 6), .mv (.tmp 24), none⟩])
 (.ret)))
def r_spec_l2Row : List ARes := [.tmp 6]
theorem ok_spec_l2Row : FnOk Try.prog 36 25 c_spec_l2Row r_spec_l2Row := ⟨⟨Try.f36, _, Try.func36, by kernel_rfl, rfl, rfl, by kernel_rfl, by kernel_rfl⟩⟩
def c_spec_l3Span : ACode := .seq (.reg [⟨(some 3), .box 26 (.tmp 0), none⟩,
  ⟨(some 6), .mv (.const (.int .i64 0)), none⟩])
 (.seq (.reg [⟨(some 7), .mv (.const (.int .i64 0)), none⟩,
  ⟨(some 8), .mv (.const (.bool false)), none⟩])
 (.seq (.seq (.reg [⟨(some 10), .mv (.tmp 1), none⟩,
  ⟨(some 9), .mv (.tmp 10), none⟩])
 (.block 0 (.loop (.seq (.seq (.reg [⟨(some 11), .mv (.tmp 9), none⟩,
  ⟨(some 12), .mv (.tmp 2), none⟩,
  ⟨(some 13), .bin .lss (.tmp 11) (.tmp 12), none⟩])
 (.cond (.tmp 13) (.skip) (.exit 0)))
 (.seq (.block 1 (.seq (.reg [⟨(some 16), .mv (.tmp 7), none⟩,
  ⟨(some 17), .fad 0 (.tmp 3), none⟩,
  ⟨(some 18), .ld none (.tmp 17), none⟩,
  ⟨(some 19), .mv (.tmp 9), none⟩,
  ⟨(some 20), .iad 1 (.tmp 18) (.tmp 19), none⟩,
  ⟨(some 21), .ld none (.tmp 20), none⟩,
  ⟨(some 22), .ld (some 4) (.tmp 3), none⟩,
  ⟨(some 23), .mv (.tmp 1), none⟩,
  ⟨(some 24), .mv (.tmp 9), none⟩,
  ⟨(some 25), .rcall (.func 48) [(.tmp 22), (.tmp 23), (.tmp 24)], none⟩,
  ⟨(some 26), .bin .mul (.tmp 21) (.tmp 25), none⟩,
  ⟨(some 27), .bin .add (.tmp 16) (.tmp 26), none⟩,
  ⟨(some 7), .mv (.tmp 27), none⟩])
 (.reg [⟨(some 28), .mv (.tmp 8), none⟩,
  ⟨(some 29), .mv (.tmp 28), none⟩,
  ⟨(some 30), .fad 0 (.tmp 3), (some (29, false))⟩,
  ⟨(some 31), .ld none (.tmp 30), (some (29, false))⟩,
  ⟨(some 32), .mv (.tmp 9), (some (29, false))⟩,
  ⟨(some 33), .iad 1 (.tmp 31) (.tmp 32), (some (29, false))⟩,
  ⟨(some 34), .ld none (.tmp 33), (some (29, false))⟩,
  ⟨(some 35), .bin .gtr (.tmp 34) (.const (.int .i64 0)), (some (29, false))⟩,
  ⟨(some 36), .pick (.tmp 29) (.const (.bool true)) (.tmp 35), none⟩,
  ⟨(some 8), .mv (.tmp 36), none⟩])))
 (.reg [⟨(some 14), .mv (.tmp 9), none⟩,
  ⟨(some 15), .bin .add (.tmp 14) (.const (.int .i64 1)), none⟩,
  ⟨(some 9), .mv (.tmp 15), none⟩]))))))
 (.seq (.seq (.reg [⟨(some 37), .mv (.tmp 8), none⟩,
  ⟨(some 38), .un .not (.tmp 37), none⟩])
 (.cond (.tmp 38) (.seq (.reg [⟨(some 6), .mv (.const (.int .i64 0)), none⟩])
 (.ret)) (.skip)))
 (.seq (.reg [⟨(some 39), .fad 1 (.tmp 3), none⟩,
  ⟨(some 40), .ld none (.tmp 39), none⟩,
  ⟨(some 41), .mv (.tmp 1), none⟩,
  ⟨(some 42), .iad 1 (.tmp 40) (.tmp 41), none⟩,
  ⟨(some 43), .ld none (.tmp 42), none⟩,
  ⟨(some 44), .mv (.tmp 7), none⟩,
  ⟨(some 45), .bin .add (.tmp 43) (.tmp 44), none⟩,
  ⟨(some 6), .mv (.tmp 45), none⟩])
 (.ret)))))
def r_spec_l3Span : List ARes := [.tmp 6]
theorem ok_spec_l3Span : FnOk Try.prog 37 46 c_spec_l3Span r_spec_l3Span := ⟨⟨Try.f37, _, Try.func37, by kernel_rfl, rfl, rfl, by kernel_rfl, by kernel_rfl⟩⟩
def c_spec_l2Sum : ACode := .seq (.reg [⟨(some 2), .mv (.const (.int .i64 0)), none⟩])
 (.seq (.reg [⟨(some 3), .mv (.const (.int .i64 0)), none⟩])
 (.seq (.seq (.reg [⟨(some 4), .mv (.const (.int .i64 0)), none⟩])
 (.block 0 (.loop (.seq (.seq (.reg [⟨(some 5), .mv (.tmp 4), none⟩,
  ⟨(some 6), .mv (.tmp 0), none⟩,
  ⟨(some 7), .len (.tmp 6), none⟩,
  ⟨(some 8), .bin .lss (.tmp 5) (.tmp 7), none⟩])
 (.cond (.tmp 8) (.skip) (.exit 0)))
 (.seq (.block 1 (.reg [⟨(some 11), .mv (.tmp 3), none⟩,
  ⟨(some 12), .mv (.tmp 0), none⟩,
  ⟨(some 13), .mv (.tmp 4), none⟩,
  ⟨(some 14), .iad 1 (.tmp 12) (.tmp 13), none⟩,
  ⟨(some 15), .ld none (.tmp 14), none⟩,
  ⟨(some 16), .bin .add (.tmp 11) (.tmp 15), none⟩,
  ⟨(some 3), .mv (.tmp 16), none⟩]))
 (.reg [⟨(some 9), .mv (.tmp 4), none⟩,
  ⟨(some 10), .bin .add (.tmp 9) (.const (.int .i64 1)), none⟩,
  ⟨(some 4), .mv (.tmp 10), none⟩]))))))
 (.seq (.reg [⟨(some 17), .mv (.tmp 3), none⟩,
  ⟨(some 2), .mv (.tmp 17), none⟩])
 (.ret))))
def r_spec_l2Sum : List ARes := [.tmp 2]
theorem ok_spec_l2Sum : FnOk Try.prog 38 18 c_spec_l2Sum r_spec_l2Sum := ⟨⟨Try.f38, _, Try.func38, by kernel_rfl, rfl, rfl, by kernel_rfl, by kernel_rfl⟩⟩
def c_impl_StocksOf : ACode := .seq (.reg [⟨(some 2), .box 26 (.tmp 0), none⟩,
  ⟨(some 4), .mv (.const (.slice none 0 0)), none⟩,
  ⟨(some 5), .mv (.const (.bool false)), none⟩])
 (.seq (.seq (.reg [⟨(some 6), .ld (some 4) (.tmp 2), none⟩,
  ⟨(some 7), .call (.func 20) [(.tmp 6)], none⟩,
  ⟨(some 8), .un .not (.tmp 7), none⟩])
 (.cond (.tmp 8) (.seq (.reg [⟨(some 9), .bsl 3 1 0 [] [], none⟩,
  ⟨(some 4), .mv (.tmp 9), none⟩,
  ⟨(some 5), .mv (.const (.bool false)), none⟩])
 (.ret)) (.skip)))
 (.seq (.reg [⟨(some 10), .fad 0 (.tmp 2), none⟩,
  ⟨(some 11), .ld none (.tmp 10), none⟩,
  ⟨(some 12), .mv (.tmp 1), none⟩,
  ⟨(some 13), .call (.func 49) [(.tmp 11), (.tmp 12)], none⟩,
  ⟨(some 14), .ext 0 (.tmp 13), none⟩,
  ⟨(some 15), .ext 1 (.tmp 13), none⟩,
  ⟨(some 4), .mv (.tmp 14), none⟩,
  ⟨(some 5), .mv (.tmp 15), none⟩])
 (.ret)))
def r_impl_StocksOf : List ARes := [.tmp 4, .tmp 5]
theorem ok_impl_StocksOf : FnOk Try.prog 40 16 c_impl_StocksOf r_impl_StocksOf := ⟨⟨Try.f40, _, Try.func40, by kernel_rfl, rfl, rfl, by kernel_rfl, by kernel_rfl⟩⟩
def c_impl_lotsFrom : ACode := .seq (.reg [⟨(some 1), .box 26 (.tmp 0), none⟩,
  ⟨(some 2), .mv (.const .nilFunc), none⟩])
 (.seq (.reg [⟨(some 6), .fad 0 (.tmp 1), none⟩,
  ⟨(some 7), .ld none (.tmp 6), none⟩,
  ⟨(some 8), .len (.tmp 7), none⟩,
  ⟨(some 3), .alc 3 [(.int .i64 0)], none⟩,
  ⟨none, .st 1 (.tmp 3) (.tmp 8), none⟩])
 (.seq (.reg [⟨(some 9), .mkm 69, none⟩,
  ⟨(some 10), .ld none (.tmp 3), none⟩,
  ⟨(some 11), .bld [(.int .i64 0), (.slice none 0 0)] [], none⟩,
  ⟨none, .mup (.tmp 9) (.tmp 10) (.tmp 11), none⟩,
  ⟨(some 12), .mv (.tmp 9), none⟩,
  ⟨(some 4), .alc 69 [(.map none)], none⟩,
  ⟨none, .st 1 (.tmp 4) (.tmp 12), none⟩])
 (.seq (.reg [⟨(some 5), .alc 62 [.nilFunc], none⟩])
 (.seq (.reg [⟨(some 13), .mkf 50 [] [(.tmp 4), (.tmp 1), (.tmp 3), (.tmp 5)], none⟩,
  ⟨none, .st 1 (.tmp 5) (.tmp 13), none⟩])
 (.seq (.reg [⟨(some 14), .ld none (.tmp 5), none⟩,
  ⟨(some 2), .mv (.tmp 14), none⟩])
 (.ret))))))
def r_impl_lotsFrom : List ARes := [.tmp 2]
theorem ok_impl_lotsFrom : FnOk Try.prog 41 15 c_impl_lotsFrom r_impl_lotsFrom := ⟨⟨Try.f41, _, Try.func41, by kernel_rfl, rfl, rfl, by kernel_rfl, by kernel_rfl⟩⟩
def c_impl_comesBefore : ACode := .seq (.reg [⟨(some 2), .box 49 (.tmp 0), none⟩,
  ⟨(some 3), .box 49 (.tmp 1), none⟩,
  ⟨(some 4), .mv (.const (.bool false)), none⟩])
 (.seq (.reg [⟨(some 6), .fad 0 (.tmp 2), none⟩,
  ⟨(some 7), .ld none (.tmp 6), none⟩,
  ⟨(some 8), .fad 0 (.tmp 3), none⟩,
  ⟨(some 9), .ld none (.tmp 8), none⟩,
  ⟨(some 11), .fad 1 (.tmp 2), none⟩,
  ⟨(some 12), .ld none (.tmp 11), none⟩,
  ⟨(some 13), .len (.tmp 12), none⟩,
  ⟨(some 14), .fad 1 (.tmp 3), none⟩,
  ⟨(some 15), .ld none (.tmp 14), none⟩,
  ⟨(some 16), .len (.tmp 15), none⟩,
  ⟨(some 18), .fad 1 (.tmp 2), none⟩,
  ⟨(some 19), .ld none (.tmp 18), none⟩,
  ⟨(some 20), .fad 1 (.tmp 3), none⟩,
  ⟨(some 21), .ld none (.tmp 20), none⟩,
  ⟨(some 10), .rcall (.func 52) [(.tmp 7), (.tmp 9)], none⟩,
  ⟨(some 17), .rcall (.func 52) [(.tmp 13), (.tmp 16)], none⟩,
  ⟨(some 22), .rcall (.func 53) [(.tmp 19), (.tmp 21)], none⟩,
  ⟨(some 23), .bsl 3 1 3 [(.int .i64 0), (.int .i64 0), (.int .i64 0)] [(0, 1, (.tmp 10)), (1, 1, (.tmp 17)), (2, 1, (.tmp 22))], none⟩,
  ⟨(some 24), .rcall (.func 51) [(.tmp 23)], none⟩,
  ⟨(some 5), .mv (.tmp 24), none⟩])
 (.seq (.reg [⟨(some 25), .mv (.tmp 5), none⟩,
  ⟨(some 26), .bin .lss (.tmp 25) (.const (.int .i64 0)), none⟩,
  ⟨(some 4), .mv (.tmp 26), none⟩])
 (.ret)))
def r_impl_comesBefore : List ARes := [.tmp 4]
theorem ok_impl_comesBefore : FnOk Try.prog 42 27 c_impl_comesBefore r_impl_comesBefore := ⟨⟨Try.f42, _, Try.func42, by kernel_rfl, rfl, rfl, by kernel_rfl, by kernel_rfl⟩⟩
def c_impl_isRow_1 : ACode := .seq (.reg [⟨(some 3), .mv (.const (.bool false)), none⟩])
 (.seq (.reg [⟨(some 4), .mv (.tmp 0), none⟩,
  ⟨(some 5), .ld none (.tmp 1), none⟩,
  ⟨(some 6), .call (.func 45) [(.tmp 4), (.tmp 5)], none⟩,
  ⟨(some 7), .un .not (.tmp 6), none⟩,
  ⟨(some 3), .mv (.tmp 7), none⟩])
 (.ret))
def r_impl_isRow_1 : List ARes := [.tmp 3]
theorem ok_impl_isRow_1 : FnOk Try.prog 44 8 c_impl_isRow_1 r_impl_isRow_1 := ⟨⟨Try.f44, _, Try.func44, by kernel_rfl, rfl, rfl, by kernel_rfl, by kernel_rfl⟩⟩
def c_impl_isWithin : ACode := .seq (.reg [⟨(some 4), .mv (.const (.bool false)), none⟩])
 (.seq (.reg [⟨(some 5), .mv (.tmp 0), none⟩,
  ⟨(some 6), .bin .geq (.tmp 5) (.const (.int .i64 0)), none⟩,
  ⟨(some 7), .mv (.tmp 6), none⟩,
  ⟨(some 8), .mv (.tmp 0), (some (7, true))⟩,
  ⟨(some 9), .mv (.tmp 1), (some (7, true))⟩,
  ⟨(some 10), .bin .leq (.tmp 8) (.tmp 9), (some (7, true))⟩,
  ⟨(some 11), .pick (.tmp 7) (.tmp 10) (.const (.bool false)), none⟩,
  ⟨(some 4), .mv (.tmp 11), none⟩])
 (.ret))
def r_impl_isWithin : List ARes := [.tmp 4]
theorem ok_impl_isWithin : FnOk Try.prog 45 12 c_impl_isWithin r_impl_isWithin := ⟨⟨Try.f45, _, Try.func45, by kernel_rfl, rfl, rfl, by kernel_rfl, by kernel_rfl⟩⟩
def c_slices_ContainsFunc : ACode := .seq (.reg [⟨(some 4), .mv (.const (.bool false)), none⟩])
 (.seq (.reg [⟨(some 5), .mv (.tmp 0), none⟩,
  ⟨(some 6), .mv (.tmp 1), none⟩,
  ⟨(some 7), .call (.func 58) [(.tmp 5), (.tmp 6)], none⟩,
  ⟨(some 8), .bin .geq (.tmp 7) (.const (.int .i64 0)), none⟩,
  ⟨(some 4), .mv (.tmp 8), none⟩])
 (.ret))
def r_slices_ContainsFunc : List ARes := [.tmp 4]
theorem ok_slices_ContainsFunc : FnOk Try.prog 46 9 c_slices_ContainsFunc r_slices_ContainsFunc := ⟨⟨Try.f46, _, Try.func46, by kernel_rfl, rfl, rfl, by kernel_rfl, by kernel_rfl⟩⟩
def c_spec_l1In : ACode := .seq (.reg [⟨(some 6), .mv (.const (.bool false)), none⟩])
 (.seq (.reg [⟨(some 7), .mv (.tmp 0), none⟩,
  ⟨(some 8), .mv (.tmp 1), none⟩,
  ⟨(some 9), .bin .geq (.tmp 7) (.tmp 8), none⟩,
  ⟨(some 10), .mv (.tmp 9), none⟩,
  ⟨(some 11), .mv (.tmp 0), (some (10, true))⟩,
  ⟨(some 12), .mv (.tmp 2), (some (10, true))⟩,
  ⟨(some 13), .bin .leq (.tmp 11) (.tmp 12), (some (10, true))⟩,
  ⟨(some 14), .pick (.tmp 10) (.tmp 13) (.const (.bool false)), none⟩,
  ⟨(some 6), .mv (.tmp 14), none⟩])
 (.ret))
def r_spec_l1In : List ARes := [.tmp 6]
theorem ok_spec_l1In : FnOk Try.prog 47 15 c_spec_l1In r_spec_l1In := ⟨⟨Try.f47, _, Try.func47, by kernel_rfl, rfl, rfl, by kernel_rfl, by kernel_rfl⟩⟩
def c_spec_l3Rate : ACode := .seq (.reg [⟨(some 3), .box 26 (.tmp 0), none⟩,
  ⟨(some 6), .mv (.const (.int .i64 0)), none⟩])
 (.seq (.reg [⟨(some 9), .fad 2 (.tmp 3), none⟩,
  ⟨(some 10), .ld none (.tmp 9), none⟩,
  ⟨(some 11), .mv (.tmp 1), none⟩,
  ⟨(some 12), .iad 1 (.tmp 10) (.tmp 11), none⟩,
  ⟨(some 13), .ld none (.tmp 12), none⟩,
  ⟨(some 7), .mv (.tmp 13), none⟩])
 (.seq (.seq (.reg [⟨(some 14), .mv (.tmp 1), none⟩,
  ⟨(some 8), .mv (.tmp 14), none⟩])
 (.block 0 (.loop (.seq (.seq (.reg [⟨(some 15), .mv (.tmp 8), none⟩,
  ⟨(some 16), .mv (.tmp 2), none⟩,
  ⟨(some 17), .bin .lss (.tmp 15) (.tmp 16), none⟩])
 (.cond (.tmp 17) (.skip) (.exit 0)))
 (.seq (.block 1 (.reg [⟨(some 20), .mv (.tmp 7), none⟩,
  ⟨(some 21), .fad 3 (.tmp 3), none⟩,
  ⟨(some 22), .ld none (.tmp 21), none⟩,
  ⟨(some 23), .mv (.tmp 8), none⟩,
  ⟨(some 24), .iad 1 (.tmp 22) (.tmp 23), none⟩,
  ⟨(some 25), .ld none (.tmp 24), none⟩,
  ⟨(some 26), .bin .add (.tmp 20) (.tmp 25), none⟩,
  ⟨(some 7), .mv (.tmp 26), none⟩]))
 (.reg [⟨(some 18), .mv (.tmp 8), none⟩,
  ⟨(some 19), .bin .add (.tmp 18) (.const (.int .i64 1)), none⟩,
  ⟨(some 8), .mv (.tmp 19), none⟩]))))))
 (.seq (.reg [⟨(some 27), .mv (.tmp 7), none⟩,
  ⟨(some 6), .mv (.tmp 27), none⟩])
 (.ret))))
def r_spec_l3Rate : List ARes := [.tmp 6]
theorem ok_spec_l3Rate : FnOk Try.prog 48 28 c_spec_l3Rate r_spec_l3Rate := ⟨⟨Try.f48, _, Try.func48, by kernel_rfl, rfl, rfl, by kernel_rfl, by kernel_rfl⟩⟩
def c_impl_stocksFor : ACode := .seq (.reg [⟨(some 4), .mv (.const (.slice none 0 0)), none⟩,
  ⟨(some 5), .mv (.const (.bool false)), none⟩])
 (.seq (.reg [⟨(some 9), .mv (.tmp 0), none⟩,
  ⟨(some 10), .mv (.tmp 1), none⟩,
  ⟨(some 11), .call (.func 59) [(.tmp 9), (.tmp 10)], none⟩,
  ⟨(some 8), .mv (.tmp 11), none⟩,
  ⟨(some 12), .ext 0 (.tmp 8), none⟩,
  ⟨(some 13), .ext 1 (.tmp 8), none⟩,
  ⟨(some 6), .mv (.tmp 12), none⟩,
  ⟨(some 7), .mv (.tmp 13), none⟩])
 (.seq (.seq (.reg [⟨(some 14), .mv (.tmp 7), none⟩,
  ⟨(some 15), .un .not (.tmp 14), none⟩,
  ⟨(some 16), .mv (.tmp 15), none⟩,
  ⟨(some 17), .mv (.tmp 6), (some (16, false))⟩,
  ⟨(some 18), .call (.func 46) [(.tmp 17), (.func 60)], (some (16, false))⟩,
  ⟨(some 19), .pick (.tmp 16) (.const (.bool true)) (.tmp 18), none⟩])
 (.cond (.tmp 19) (.seq (.reg [⟨(some 20), .bsl 3 1 0 [] [], none⟩,
  ⟨(some 4), .mv (.tmp 20), none⟩,
  ⟨(some 5), .mv (.const (.bool false)), none⟩])
 (.ret)) (.skip)))
 (.seq (.reg [⟨(some 21), .mv (.tmp 6), none⟩,
  ⟨(some 4), .mv (.tmp 21), none⟩,
  ⟨(some 5), .mv (.const (.bool true)), none⟩])
 (.ret))))
def r_impl_stocksFor : List ARes := [.tmp 4, .tmp 5]
theorem ok_impl_stocksFor : FnOk Try.prog 49 22 c_impl_stocksFor r_impl_stocksFor := ⟨⟨Try.f49, _, Try.func49, by kernel_rfl, rfl, rfl, by kernel_rfl, by kernel_rfl⟩⟩
def c_impl_lotsFrom_1 : ACode := .seq (.reg [⟨(some 6), .alc 49 [(.int .i64 0), (.slice none 0 0)], none⟩])
 (.seq (.seq (.reg [⟨(some 15), .ld none (.tmp 1), none⟩,
  ⟨(some 16), .mv (.tmp 0), none⟩,
  ⟨(some 17), .lkp true (.agg #[(.int .i64 0), (.slice none 0 0)]) (.tmp 15) (.tmp 16), none⟩,
  ⟨(some 14), .mv (.tmp 17), none⟩,
  ⟨(some 18), .ext 0 (.tmp 14), none⟩,
  ⟨(some 19), .ext 1 (.tmp 14), none⟩,
  ⟨(some 7), .alc 49 [(.int .i64 0), (.slice none 0 0)], none⟩,
  ⟨none, .st 2 (.tmp 7) (.tmp 18), none⟩,
  ⟨(some 8), .mv (.tmp 19), none⟩])
 (.seq (.reg [⟨(some 20), .mv (.tmp 8), none⟩])
 (.cond (.tmp 20) (.seq (.reg [⟨(some 21), .ld (some 2) (.tmp 7), none⟩,
  ⟨none, .st 2 (.tmp 6) (.tmp 21), none⟩])
 (.ret)) (.skip))))
 (.seq (.reg [⟨(some 22), .ld (some 4) (.tmp 2), none⟩,
  ⟨(some 23), .mv (.tmp 0), none⟩,
  ⟨(some 24), .ld none (.tmp 3), none⟩,
  ⟨(some 25), .call (.func 35) [(.tmp 22), (.tmp 23), (.tmp 24)], none⟩,
  ⟨(some 26), .mv (.tmp 0), none⟩,
  ⟨(some 27), .bsl 3 1 1 [(.int .i64 0)] [(0, 1, (.tmp 26))], none⟩,
  ⟨(some 28), .bld [(.int .i64 0), (.slice none 0 0)] [(0, 1, (.tmp 25)), (1, 1, (.tmp 27))], none⟩,
  ⟨(some 9), .alc 49 [(.int .i64 0), (.slice none 0 0)], none⟩,
  ⟨none, .st 2 (.tmp 9) (.tmp 28), none⟩])
 (.seq (.seq (.reg [⟨(some 29), .mv (.tmp 0), none⟩,
  ⟨(some 30), .bin .add (.tmp 29) (.const (.int .i64 1)), none⟩,
  ⟨(some 10), .mv (.tmp 30), none⟩])
 (.block 0 (.loop (.seq (.seq (.reg [⟨(some 31), .mv (.tmp 10), none⟩,
  ⟨(some 32), .ld none (.tmp 3), none⟩,
  ⟨(some 33), .bin .lss (.tmp 31) (.tmp 32), none⟩])
 (.cond (.tmp 33) (.skip) (.exit 0)))
 (.seq (.block 1 (.seq (.reg [⟨(some 36), .ld none (.tmp 4), none⟩,
  ⟨(some 37), .mv (.tmp 10), none⟩,
  ⟨(some 38), .call (.tmp 36) [(.tmp 37)], none⟩,
  ⟨(some 11), .alc 49 [(.int .i64 0), (.slice none 0 0)], none⟩,
  ⟨none, .st 2 (.tmp 11) (.tmp 38), none⟩])
 (.seq (.reg [⟨(some 39), .mv (.tmp 0), none⟩,
  ⟨(some 40), .bsl 3 1 1 [(.int .i64 0)] [(0, 1, (.tmp 39))], none⟩,
  ⟨(some 41), .fad 1 (.tmp 11), none⟩,
  ⟨(some 42), .ld none (.tmp 41), none⟩,
  ⟨(some 43), .app 3 1 8 (.tmp 40) (.tmp 42), none⟩,
  ⟨(some 12), .mv (.tmp 43), none⟩])
 (.seq (.seq (.reg [⟨(some 44), .ld (some 4) (.tmp 2), none⟩]) (.seq (.reg [⟨(some 45), .mv (.tmp 0), none⟩]) (.seq (.reg [⟨(some 46), .mv (.tmp 10), none⟩]) (.seq (.reg [⟨(some 48), .fad 0 (.tmp 11), none⟩]) (.seq (.reg [⟨(some 49), .ld none (.tmp 48), none⟩]) (.seq (.reg [⟨(some 51), .mv (.tmp 12), none⟩]) (.both (.seq (.reg [⟨(some 47), .rcall (.func 35) [(.tmp 44), (.tmp 45), (.tmp 46)], none⟩]) (.seq (.reg [⟨(some 50), .bin .add (.tmp 47) (.tmp 49), none⟩]) (.seq (.reg [⟨(some 52), .bld [(.int .i64 0), (.slice none 0 0)] [(0, 1, (.tmp 50)), (1, 1, (.tmp 51))], none⟩]) (.seq (.reg [⟨(some 13), .alc 49 [(.int .i64 0), (.slice none 0 0)], none⟩]) (.seq (.reg [⟨none, .st 2 (.tmp 13) (.tmp 52), none⟩]) (.skip)))))) (.seq (.reg [⟨(some 13), .alc 49 [(.int .i64 0), (.slice none 0 0)], none⟩]) (.seq (.reg [⟨(some 47), .rcall (.func 35) [(.tmp 44), (.tmp 45), (.tmp 46)], none⟩]) (.seq (.reg [⟨(some 50), .bin .add (.tmp 47) (.tmp 49), none⟩]) (.seq (.reg [⟨(some 52), .bld [(.int .i64 0), (.slice none 0 0)] [(0, 1, (.tmp 50)), (1, 1, (.tmp 51))], none⟩]) (.seq (.reg [⟨none, .st 2 (.tmp 13) (.tmp 52), none⟩]) (.skip)))))))))))))
 (.seq (.reg [⟨(some 53), .ld (some 2) (.tmp 13), none⟩,
  ⟨(some 54), .ld (some 2) (.tmp 9), none⟩,
  ⟨(some 55), .call (.func 42) [(.tmp 53), (.tmp 54)], none⟩])
 (.cond (.tmp 55) (.reg [⟨(some 56), .ld (some 2) (.tmp 13), none⟩,
  ⟨none, .st 2 (.tmp 9) (.tmp 56), none⟩]) (.skip)))))))
 (.reg [⟨(some 34), .mv (.tmp 10), none⟩,
  ⟨(some 35), .bin .add (.tmp 34) (.const (.int .i64 1)), none⟩,
  ⟨(some 10), .mv (.tmp 35), none⟩]))))))
 (.seq (.reg [⟨(some 57), .ld none (.tmp 1), none⟩,
  ⟨(some 58), .mv (.tmp 0), none⟩,
  ⟨(some 59), .ld (some 2) (.tmp 9), none⟩,
  ⟨none, .mup (.tmp 57) (.tmp 58) (.tmp 59), none⟩])
 (.seq (.reg [⟨(some 60), .ld (some 2) (.tmp 9), none⟩,
  ⟨none, .st 2 (.tmp 6) (.tmp 60), none⟩])
 (.ret))))))
def r_impl_lotsFrom_1 : List ARes := [.cell 6 (some 2)]
theorem ok_impl_lotsFrom_1 : FnOk Try.prog 50 61 c_impl_lotsFrom_1 r_impl_lotsFrom_1 := ⟨⟨Try.f50, _, Try.func50, by kernel_rfl, rfl, rfl, by kernel_rfl, by kernel_rfl⟩⟩
def c_cmp_Or : ACode := .seq (.reg [⟨(some 2), .mv (.const (.int .i64 0)), none⟩])
 (.seq (.reg [⟨(some 3), .mv (.const (.int .i64 0)), none⟩])
 (.seq (.seq (.reg [⟨(some 6), .mv (.tmp 0), none⟩,
  ⟨(some 7), .len (.tmp 6), none⟩,
  ⟨(some 8), .mv (.const (.int .i64 0)), none⟩])
 (.block 0 (.loop (.seq (.reg [⟨(some 9), .bin .lss (.tmp 8) (.tmp 7), none⟩])
 (.seq (.cond (.tmp 9) (.skip) (.exit 0))
 (.seq (.block 1 (.seq (.reg [⟨(some 10), .iad 1 (.tmp 6) (.tmp 8), none⟩,
  ⟨(some 11), .ld none (.tmp 10), none⟩,
  ⟨(some 5), .mv (.tmp 11), none⟩])
 (.seq (.reg [⟨(some 12), .mv (.tmp 5), none⟩,
  ⟨(some 13), .mv (.tmp 3), none⟩,
  ⟨(some 14), .bin .neq (.tmp 12) (.tmp 13), none⟩])
 (.cond (.tmp 14) (.seq (.reg [⟨(some 15), .mv (.tmp 5), none⟩,
  ⟨(some 2), .mv (.tmp 15), none⟩])
 (.ret)) (.skip)))))
 (.reg [⟨(some 16), .bin .add (.tmp 8) (.const (.int .i64 1)), none⟩,
  ⟨(some 8), .mv (.tmp 16), none⟩])))))))
 (.seq (.reg [⟨(some 17), .mv (.tmp 3), none⟩,
  ⟨(some 2), .mv (.tmp 17), none⟩])
 (.ret))))
def r_cmp_Or : List ARes := [.tmp 2]
theorem ok_cmp_Or : FnOk Try.prog 51 18 c_cmp_Or r_cmp_Or := ⟨⟨Try.f51, _, Try.func51, by kernel_rfl, rfl, rfl, by kernel_rfl, by kernel_rfl⟩⟩
def c_cmp_Compare : ACode := .seq (.reg [⟨(some 4), .mv (.const (.int .i64 0)), none⟩])
 (.seq (.reg [⟨(some 7), .mv (.tmp 0), none⟩,
  ⟨(some 8), .call (.func 61) [(.tmp 7)], none⟩,
  ⟨(some 5), .mv (.tmp 8), none⟩])
 (.seq (.reg [⟨(some 9), .mv (.tmp 1), none⟩,
  ⟨(some 10), .call (.func 61) [(.tmp 9)], none⟩,
  ⟨(some 6), .mv (.tmp 10), none⟩])
 (.seq (.seq (.reg [⟨(some 11), .mv (.tmp 5), none⟩])
 (.cond (.tmp 11) (.seq (.seq (.reg [⟨(some 12), .mv (.tmp 6), none⟩])
 (.cond (.tmp 12) (.seq (.reg [⟨(some 4), .mv (.const (.int .i64 0)), none⟩])
 (.ret)) (.skip)))
 (.seq (.reg [⟨(some 4), .mv (.const (.int .i64 (-1))), none⟩])
 (.ret))) (.skip)))
 (.seq (.seq (.reg [⟨(some 13), .mv (.tmp 6), none⟩])
 (.cond (.tmp 13) (.seq (.reg [⟨(some 4), .mv (.const (.int .i64 1)), none⟩])
 (.ret)) (.skip)))
 (.seq (.seq (.reg [⟨(some 14), .mv (.tmp 0), none⟩,
  ⟨(some 15), .mv (.tmp 1), none⟩,
  ⟨(some 16), .bin .lss (.tmp 14) (.tmp 15), none⟩])
 (.cond (.tmp 16) (.seq (.reg [⟨(some 4), .mv (.const (.int .i64 (-1))), none⟩])
 (.ret)) (.skip)))
 (.seq (.seq (.reg [⟨(some 17), .mv (.tmp 0), none⟩,
  ⟨(some 18), .mv (.tmp 1), none⟩,
  ⟨(some 19), .bin .gtr (.tmp 17) (.tmp 18), none⟩])
 (.cond (.tmp 19) (.seq (.reg [⟨(some 4), .mv (.const (.int .i64 1)), none⟩])
 (.ret)) (.skip)))
 (.seq (.reg [⟨(some 4), .mv (.const (.int .i64 0)), none⟩])
 (.ret))))))))
def r_cmp_Compare : List ARes := [.tmp 4]
theorem ok_cmp_Compare : FnOk Try.prog 52 20 c_cmp_Compare r_cmp_Compare := ⟨⟨Try.f52, _, Try.func52, by kernel_rfl, rfl, rfl, by kernel_rfl, by kernel_rfl⟩⟩
def c_slices_Compare : ACode := .seq (.reg [⟨(some 4), .mv (.const (.int .i64 0)), none⟩])
 (.seq (.seq (.reg [⟨(some 9), .mv (.tmp 0), none⟩,
  ⟨(some 10), .len (.tmp 9), none⟩,
  ⟨(some 11), .mv (.const (.int .i64 0)), none⟩])
 (.block 0 (.loop (.seq (.reg [⟨(some 12), .bin .lss (.tmp 11) (.tmp 10), none⟩])
 (.seq (.cond (.tmp 12) (.skip) (.exit 0))
 (.seq (.block 1 (.seq (.reg [⟨(some 13), .mv (.tmp 11), none⟩,
  ⟨(some 14), .iad 1 (.tmp 9) (.tmp 11), none⟩,
  ⟨(some 15), .ld none (.tmp 14), none⟩,
  ⟨(some 5), .mv (.tmp 13), none⟩,
  ⟨(some 6), .mv (.tmp 15), none⟩])
 (.seq (.seq (.reg [⟨(some 16), .mv (.tmp 5), none⟩,
  ⟨(some 17), .mv (.tmp 1), none⟩,
  ⟨(some 18), .len (.tmp 17), none⟩,
  ⟨(some 19), .bin .geq (.tmp 16) (.tmp 18), none⟩])
 (.cond (.tmp 19) (.seq (.reg [⟨(some 4), .mv (.const (.int .i64 1)), none⟩])
 (.ret)) (.skip)))
 (.seq (.reg [⟨(some 20), .mv (.tmp 1), none⟩,
  ⟨(some 21), .mv (.tmp 5), none⟩,
  ⟨(some 22), .iad 1 (.tmp 20) (.tmp 21), none⟩,
  ⟨(some 23), .ld none (.tmp 22), none⟩,
  ⟨(some 7), .mv (.tmp 23), none⟩])
 (.seq (.reg [⟨(some 24), .mv (.tmp 6), none⟩,
  ⟨(some 25), .mv (.tmp 7), none⟩,
  ⟨(some 26), .call (.func 52) [(.tmp 24), (.tmp 25)], none⟩,
  ⟨(some 8), .mv (.tmp 26), none⟩])
 (.seq (.reg [⟨(some 27), .mv (.tmp 8), none⟩,
  ⟨(some 28), .bin .neq (.tmp 27) (.const (.int .i64 0)), none⟩])
 (.cond (.tmp 28) (.seq (.reg [⟨(some 29), .mv (.tmp 8), none⟩,
  ⟨(some 4), .mv (.tmp 29), none⟩])
 (.ret)) (.skip))))))))
 (.reg [⟨(some 30), .bin .add (.tmp 11) (.const (.int .i64 1)), none⟩,
  ⟨(some 11), .mv (.tmp 30), none⟩])))))))
 (.seq (.seq (.reg [⟨(some 31), .mv (.tmp 0), none⟩,
  ⟨(some 32), .len (.tmp 31), none⟩,
  ⟨(some 33), .mv (.tmp 1), none⟩,
  ⟨(some 34), .len (.tmp 33), none⟩,
  ⟨(some 35), .bin .lss (.tmp 32) (.tmp 34), none⟩])
 (.cond (.tmp 35) (.seq (.reg [⟨(some 4), .mv (.const (.int .i64 (-1))), none⟩])
 (.ret)) (.skip)))
 (.seq (.reg [⟨(some 4), .mv (.const (.int .i64 0)), none⟩])
 (.ret))))
def r_slices_Compare : List ARes := [.tmp 4]
theorem ok_slices_Compare : FnOk Try.prog 53 36 c_slices_Compare r_slices_Compare := ⟨⟨Try.f53, _, Try.func53, by kernel_rfl, rfl, rfl, by kernel_rfl, by kernel_rfl⟩⟩
def c_spec_l1Least : ACode := .seq (.reg [⟨(some 4), .mv (.const (.int .i64 0)), none⟩])
 (.seq (.seq (.reg [⟨(some 5), .mv (.tmp 0), none⟩,
  ⟨(some 6), .mv (.tmp 1), none⟩,
  ⟨(some 7), .bin .lss (.tmp 5) (.tmp 6), none⟩])
 (.cond (.tmp 7) (.seq (.reg [⟨(some 8), .mv (.tmp 0), none⟩,
  ⟨(some 4), .mv (.tmp 8), none⟩])
 (.ret)) (.skip)))
 (.seq (.reg [⟨(some 9), .mv (.tmp 1), none⟩,
  ⟨(some 4), .mv (.tmp 9), none⟩])
 (.ret)))
def r_spec_l1Least : List ARes := [.tmp 4]
theorem ok_spec_l1Least : FnOk Try.prog 54 10 c_spec_l1Least r_spec_l1Least := ⟨⟨Try.f54, _, Try.func54, by kernel_rfl, rfl, rfl, by kernel_rfl, by kernel_rfl⟩⟩
def c_slices_IndexFunc : ACode := .seq (.reg [⟨(some 4), .mv (.const (.int .i64 0)), none⟩])
 (.seq (.seq (.reg [⟨(some 6), .mv (.tmp 0), none⟩,
  ⟨(some 7), .len (.tmp 6), none⟩,
  ⟨(some 8), .mv (.const (.int .i64 0)), none⟩])
 (.block 0 (.loop (.seq (.reg [⟨(some 9), .bin .lss (.tmp 8) (.tmp 7), none⟩])
 (.seq (.cond (.tmp 9) (.skip) (.exit 0))
 (.seq (.block 1 (.seq (.reg [⟨(some 10), .mv (.tmp 8), none⟩,
  ⟨(some 5), .mv (.tmp 10), none⟩])
 (.seq (.reg [⟨(some 11), .mv (.tmp 1), none⟩,
  ⟨(some 12), .mv (.tmp 0), none⟩,
  ⟨(some 13), .mv (.tmp 5), none⟩,
  ⟨(some 14), .iad 1 (.tmp 12) (.tmp 13), none⟩,
  ⟨(some 15), .ld none (.tmp 14), none⟩,
  ⟨(some 16), .call (.tmp 11) [(.tmp 15)], none⟩])
 (.cond (.tmp 16) (.seq (.reg [⟨(some 17), .mv (.tmp 5), none⟩,
  ⟨(some 4), .mv (.tmp 17), none⟩])
 (.ret)) (.skip)))))
 (.reg [⟨(some 18), .bin .add (.tmp 8) (.const (.int .i64 1)), none⟩,
  ⟨(some 8), .mv (.tmp 18), none⟩])))))))
 (.seq (.reg [⟨(some 4), .mv (.const (.int .i64 (-1))), none⟩])
 (.ret)))
def r_slices_IndexFunc : List ARes := [.tmp 4]
theorem ok_slices_IndexFunc : FnOk Try.prog 58 19 c_slices_IndexFunc r_slices_IndexFunc := ⟨⟨Try.f58, _, Try.func58, by kernel_rfl, rfl, rfl, by kernel_rfl, by kernel_rfl⟩⟩
def c_impl_balancesFor : ACode := .seq (.reg [⟨(some 4), .mv (.const (.slice none 0 0)), none⟩,
  ⟨(some 5), .mv (.const (.bool false)), none⟩])
 (.seq (.seq (.reg [⟨(some 10), .mv (.tmp 1), none⟩,
  ⟨(some 11), .mv (.tmp 0), none⟩,
  ⟨(some 12), .len (.tmp 11), none⟩,
  ⟨(some 13), .mv (.tmp 0), none⟩,
  ⟨(some 14), .call (.func 24) [(.tmp 13)], none⟩,
  ⟨(some 15), .call (.func 34) [(.tmp 10), (.tmp 12), (.tmp 14)], none⟩,
  ⟨(some 16), .un .not (.tmp 15), none⟩])
 (.cond (.tmp 16) (.seq (.reg [⟨(some 17), .bsl 3 1 0 [] [], none⟩,
  ⟨(some 4), .mv (.tmp 17), none⟩,
  ⟨(some 5), .mv (.const (.bool false)), none⟩])
 (.ret)) (.skip)))
 (.seq (.reg [⟨(some 6), .mv (.const (.int .i64 0)), none⟩])
 (.seq (.reg [⟨(some 18), .bsl 3 1 0 [] [], none⟩,
  ⟨(some 7), .mv (.tmp 18), none⟩])
 (.seq (.seq (.reg [⟨(some 19), .mv (.tmp 1), none⟩,
  ⟨(some 20), .len (.tmp 19), none⟩,
  ⟨(some 21), .mv (.const (.int .i64 0)), none⟩])
 (.block 0 (.loop (.seq (.reg [⟨(some 22), .bin .lss (.tmp 21) (.tmp 20), none⟩])
 (.seq (.cond (.tmp 22) (.skip) (.exit 0))
 (.seq (.block 1 (.seq (.reg [⟨(some 23), .mv (.tmp 21), none⟩,
  ⟨(some 24), .iad 1 (.tmp 19) (.tmp 21), none⟩,
  ⟨(some 25), .ld none (.tmp 24), none⟩,
  ⟨(some 8), .mv (.tmp 23), none⟩,
  ⟨(some 9), .mv (.tmp 25), none⟩])
 (.seq (.reg [⟨(some 26), .mv (.tmp 6), none⟩,
  ⟨(some 27), .mv (.tmp 9), none⟩,
  ⟨(some 28), .mv (.tmp 0), none⟩,
  ⟨(some 29), .mv (.tmp 8), none⟩,
  ⟨(some 30), .iad 1 (.tmp 28) (.tmp 29), none⟩,
  ⟨(some 31), .ld none (.tmp 30), none⟩,
  ⟨(some 32), .bin .sub (.tmp 27) (.tmp 31), none⟩,
  ⟨(some 33), .bin .add (.tmp 26) (.tmp 32), none⟩,
  ⟨(some 6), .mv (.tmp 33), none⟩])
 (.reg [⟨(some 34), .mv (.tmp 7), none⟩,
  ⟨(some 35), .mv (.tmp 6), none⟩,
  ⟨(some 36), .bsl 3 1 1 [(.int .i64 0)] [(0, 1, (.tmp 35))], none⟩,
  ⟨(some 37), .app 3 1 8 (.tmp 34) (.tmp 36), none⟩,
  ⟨(some 7), .mv (.tmp 37), none⟩]))))
 (.reg [⟨(some 38), .bin .add (.tmp 21) (.const (.int .i64 1)), none⟩,
  ⟨(some 21), .mv (.tmp 38), none⟩])))))))
 (.seq (.seq (.reg [⟨(some 39), .mv (.tmp 6), none⟩,
  ⟨(some 40), .bin .neq (.tmp 39) (.const (.int .i64 0)), none⟩])
 (.cond (.tmp 40) (.seq (.reg [⟨(some 41), .bsl 3 1 0 [] [], none⟩,
  ⟨(some 4), .mv (.tmp 41), none⟩,
  ⟨(some 5), .mv (.const (.bool false)), none⟩])
 (.ret)) (.skip)))
 (.seq (.reg [⟨(some 42), .mv (.tmp 7), none⟩,
  ⟨(some 4), .mv (.tmp 42), none⟩,
  ⟨(some 5), .mv (.const (.bool true)), none⟩])
 (.ret)))))))
def r_impl_balancesFor : List ARes := [.tmp 4, .tmp 5]
theorem ok_impl_balancesFor : FnOk Try.prog 59 43 c_impl_balancesFor r_impl_balancesFor := ⟨⟨Try.f59, _, Try.func59, by kernel_rfl, rfl, rfl, by kernel_rfl, by kernel_rfl⟩⟩
def c_impl_isOwed : ACode := .seq (.reg [⟨(some 2), .mv (.const (.bool false)), none⟩])
 (.seq (.reg [⟨(some 3), .mv (.tmp 0), none⟩,
  ⟨(some 4), .bin .lss (.tmp 3) (.const (.int .i64 0)), none⟩,
  ⟨(some 2), .mv (.tmp 4), none⟩])
 (.ret))
def r_impl_isOwed : List ARes := [.tmp 2]
theorem ok_impl_isOwed : FnOk Try.prog 60 5 c_impl_isOwed r_impl_isOwed := ⟨⟨Try.f60, _, Try.func60, by kernel_rfl, rfl, rfl, by kernel_rfl, by kernel_rfl⟩⟩
def c_cmp_isNaN : ACode := .seq (.reg [⟨(some 2), .mv (.const (.bool false)), none⟩])
 (.seq (.reg [⟨(some 3), .mv (.tmp 0), none⟩,
  ⟨(some 4), .mv (.tmp 0), none⟩,
  ⟨(some 5), .bin .neq (.tmp 3) (.tmp 4), none⟩,
  ⟨(some 2), .mv (.tmp 5), none⟩])
 (.ret))
def r_cmp_isNaN : List ARes := [.tmp 2]
theorem ok_cmp_isNaN : FnOk Try.prog 61 6 c_cmp_isNaN r_cmp_isNaN := ⟨⟨Try.f61, _, Try.func61, by kernel_rfl, rfl, rfl, by kernel_rfl, by kernel_rfl⟩⟩
end Go.Proofs.Ytibkaclkaigflaa.Ab
end
section
namespace Go.Proofs.Ytibkaclkaigflaa.Ab
open Go Go.RowKit
set_option linter.unusedVariables false
set_option linter.unusedSimpArgs false
def inB (most x : Int) : Bool := decide (0 ≤ x) && decide (x ≤ most)
theorem rowB_all (l : List Int) (n : Nat) (most : Int) : Go.Proofs.Ytibkaclkaigflaa.rowB l n most = (decide (l.length = n) && l.all (inB most)) := by
  rw [Bool.and_comm]; rfl
def allTo (f : Int → Bool) (l : List Int) (k : Nat) : Prop := ∀ j, j < k → f (l.getD j 0) = true
theorem allTo_all {f : Int → Bool} {l : List Int} (h : allTo f l l.length) : l.all f = true := by
  rw [List.all_eq_true]
  intro x hx
  obtain ⟨k, hk, rfl⟩ := List.getElem_of_mem hx
  have := h k hk
  rwa [List.getD_eq_getElem?_getD, List.getElem?_eq_getElem hk] at this
theorem allTo_no {f : Int → Bool} {l : List Int} {k : Nat} (hk : k < l.length) (h : f (l.getD k 0) = false) : l.all f = false := by
  rw [List.getD_eq_getElem?_getD, List.getElem?_eq_getElem hk] at h
  cases hr : l.all f with
  | false => rfl
  | true => rw [Option.getD_some, List.all_eq_true.1 hr _ (List.getElem_mem hk)] at h; cases h
theorem allTo_s {f : Int → Bool} {l : List Int} {k : Nat} (h : allTo f l k) (h2 : f (l.getD k 0) = true) : allTo f l (k + 1) := fun j hj => by
  by_cases e : j = k
  · rw [e]; exact h2
  · exact h j (by omega)

theorem l1In_rc (m : Mem) (x lo hi : Int) : RC Try.prog 47 [.int .i64 x, .int .i64 lo, .int .i64 hi] m fun r new => r = .bool (decide (lo ≤ x) && decide (x ≤ hi)) ∧ new = [] := by
  refine rc_of_run mixed ok_spec_l1In (by simp) (go_start _ _ _ ?_)
  by_cases h1 : lo ≤ x <;> by_cases h2 : x ≤ hi
  all_goals
    simp (config := {implicitDefEqProofs := false, maxDischargeDepth := 20}) (disch := first | omega | (simp only [lenE]; done) | (simp only [lenE]; omega) | rfl | (simp only [lenE, markR_len]; done) | (simp only [lenE, markR_len]; omega)) only [runE, mapE, listE, initT_5, initT_6, initT_7, initT_8, resV, oneV, binA, unA, reduceCtorEq, Nat.reduceEqDiff, Nat.reduceAdd, Nat.reduceLT, Nat.reduceLeDiff, Nat.reduceMul, Nat.reduceSub, ↓reduceIte, decide_true, decide_false, Bool.true_eq_false, Bool.false_eq_true, Bool.not_true, Bool.not_false, if_true, if_false, and_true, true_and, memE, celE, w64, Nat.zero_add, Nat.add_zero, Nat.mul_one, putL, and_self, ldn, c_spec_l1In, r_spec_l1In, h1, h2, ge_iff_le]
    exact newQ_nil ⟨by simp, rfl⟩

theorem l2Row_rc (m : Mem) (v : Value) (l : List Int) (n : Nat) (most : Int) (h : IntsA m v l) :
    RC Try.prog 36 [v, .int .i64 n, .int .i64 most] m fun r new => r = .bool (Go.Proofs.Ytibkaclkaigflaa.rowB l n most) ∧ new = [] := by
  refine rc_of_run mixed ok_spec_l2Row (by simp) (go_start _ _ _ ?_)
  obtain ⟨e1, e2, e3, e4, -⟩ := h.ro
  rw [rowB_all]
  simp (config := {implicitDefEqProofs := false, maxDischargeDepth := 20}) (disch := first | omega | (simp only [lenE]; done) | (simp only [lenE]; omega) | rfl | (simp only [lenE, markR_len]; done) | (simp only [lenE, markR_len]; omega)) only [runE, mapE, listE, initT_5, initT_6, initT_7, initT_8, resV, oneV, binA, unA, reduceCtorEq, Nat.reduceEqDiff, Nat.reduceAdd, Nat.reduceLT, Nat.reduceLeDiff, Nat.reduceMul, Nat.reduceSub, ↓reduceIte, decide_true, decide_false, Bool.true_eq_false, Bool.false_eq_true, Bool.not_true, Bool.not_false, if_true, if_false, and_true, true_and, memE, celE, w64, Nat.zero_add, Nat.add_zero, Nat.mul_one, putL, and_self, ldn, c_spec_l2Row, r_spec_l2Row]
  refine loop_inv mixed (fun s => ∃ k : Nat, k ≤ l.length ∧ s.t 0 = v ∧ s.t 1 = .int .i64 n ∧ s.t 2 = .int .i64 most ∧ s.t 7 = .int .i64 k ∧ s.m = roM m ∧ allTo (inB most) l k) (fun s => l.length - (intOf (s.t 7)).toNat) ⟨0, by omega, rfl, rfl, rfl, rfl, rfl, fun j hj => absurd hj (by omega)⟩ ?_
  rintro s ⟨k, hk, t0, t1, t2, t7, tm, hall⟩
  by_cases hlt : k < l.length
  · have hlt' : (k : Int) < l.length := by omega
    simp (config := {implicitDefEqProofs := false, maxDischargeDepth := 20}) (disch := first | omega | (simp only [lenE]; done) | (simp only [lenE]; omega) | rfl | (simp only [lenE, markR_len]; done) | (simp only [lenE, markR_len]; omega)) only [runE, mapE, listE, initT_5, initT_6, initT_7, initT_8, resV, oneV, binA, unA, reduceCtorEq, Nat.reduceEqDiff, Nat.reduceAdd, Nat.reduceLT, Nat.reduceLeDiff, Nat.reduceMul, Nat.reduceSub, ↓reduceIte, decide_true, decide_false, Bool.true_eq_false, Bool.false_eq_true, Bool.not_true, Bool.not_false, if_true, if_false, and_true, true_and, memE, celE, w64, Nat.zero_add, Nat.add_zero, Nat.mul_one, putL, and_self, ldn, t0, t1, t2, t7, tm, e1, e3 k hlt, e4 k hlt, hlt']
    refine callH_rc (l1In_rc _ _ _ _) ?_
    rintro r new ⟨rfl, rfl⟩
    have hin : (decide (0 ≤ l.getD k 0) && decide (l.getD k 0 ≤ most)) = inB most (l.getD k 0) := rfl
    rw [hin]
    cases hb : inB most (l.getD k 0) with
    | true =>
      simp (config := {implicitDefEqProofs := false, maxDischargeDepth := 20}) (disch := first | omega | (simp only [lenE]; done) | (simp only [lenE]; omega) | rfl | (simp only [lenE, markR_len]; done) | (simp only [lenE, markR_len]; omega)) only [runE, mapE, listE, initT_5, initT_6, initT_7, initT_8, resV, oneV, binA, unA, reduceCtorEq, Nat.reduceEqDiff, Nat.reduceAdd, Nat.reduceLT, Nat.reduceLeDiff, Nat.reduceMul, Nat.reduceSub, ↓reduceIte, decide_true, decide_false, Bool.true_eq_false, Bool.false_eq_true, Bool.not_true, Bool.not_false, if_true, if_false, and_true, true_and, memE, celE, w64, Nat.zero_add, Nat.add_zero, Nat.mul_one, putL, and_self, ldn, t0, t1, t2, t7, tm]
      refine ⟨⟨k + 1, by omega, by simp, allTo_s hall hb⟩, ?_⟩
      simp [intOf]; omega
    | false =>
      simp (config := {implicitDefEqProofs := false, maxDischargeDepth := 20}) (disch := first | omega | (simp only [lenE]; done) | (simp only [lenE]; omega) | rfl | (simp only [lenE, markR_len]; done) | (simp only [lenE, markR_len]; omega)) only [runE, mapE, listE, initT_5, initT_6, initT_7, initT_8, resV, oneV, binA, unA, reduceCtorEq, Nat.reduceEqDiff, Nat.reduceAdd, Nat.reduceLT, Nat.reduceLeDiff, Nat.reduceMul, Nat.reduceSub, ↓reduceIte, decide_true, decide_false, Bool.true_eq_false, Bool.false_eq_true, Bool.not_true, Bool.not_false, if_true, if_false, and_true, true_and, memE, celE, w64, Nat.zero_add, Nat.add_zero, Nat.mul_one, putL, and_self, ldn, t0, t1, t2, t7, tm]
      exact newQ_nil ⟨by rw [allTo_no hlt hb]; simp, rfl⟩
  · have hlt' : ¬ ((k : Int) < l.length) := by omega
    have e : k = l.length := by omega
    simp (config := {implicitDefEqProofs := false, maxDischargeDepth := 20}) (disch := first | omega | (simp only [lenE]; done) | (simp only [lenE]; omega) | rfl | (simp only [lenE, markR_len]; done) | (simp only [lenE, markR_len]; omega)) only [runE, mapE, listE, initT_5, initT_6, initT_7, initT_8, resV, oneV, binA, unA, reduceCtorEq, Nat.reduceEqDiff, Nat.reduceAdd, Nat.reduceLT, Nat.reduceLeDiff, Nat.reduceMul, Nat.reduceSub, ↓reduceIte, decide_true, decide_false, Bool.true_eq_false, Bool.false_eq_true, Bool.not_true, Bool.not_false, if_true, if_false, and_true, true_and, memE, celE, w64, Nat.zero_add, Nat.add_zero, Nat.mul_one, putL, and_self, ldn, t0, t1, t2, t7, tm, e1, hlt']
    rw [e] at hall
    refine newQ_nil ⟨?_, rfl⟩
    rw [allTo_all hall]
    by_cases hq : l.length = n <;> simp [hq] <;> omega

theorem l2Good_rc (m : Mem) (v : Value) (k : Cs) (h : CaseA m v k) : RC Try.prog 22 [v] m (AnsV (.bool k.good)) := by
  refine rc_of_run mixed ok_spec_l2Good (by simp) (go_start _ _ _ ?_)
  obtain ⟨v1, v2, v3, v4, rfl, h1, h2, h3, h4⟩ := h.ro.ok
  unfold Cs.good
  by_cases g0 : k.need.length ≤ 8
  · have g0' : (k.need.length : Int) ≤ 8 := by omega
    simp (config := {implicitDefEqProofs := false, maxDischargeDepth := 20}) (disch := first | omega | (simp only [lenE]; done) | (simp only [lenE]; omega) | rfl | (simp only [lenE, markR_len]; done) | (simp only [lenE, markR_len]; omega)) only [runE, mapE, listE, initT_5, initT_6, initT_7, initT_8, resV, oneV, binA, unA, reduceCtorEq, Nat.reduceEqDiff, Nat.reduceAdd, Nat.reduceLT, Nat.reduceLeDiff, Nat.reduceMul, Nat.reduceSub, ↓reduceIte, decide_true, decide_false, Bool.true_eq_false, Bool.false_eq_true, Bool.not_true, Bool.not_false, if_true, if_false, and_true, true_and, memE, celE, w64, Nat.zero_add, Nat.add_zero, Nat.mul_one, putL, and_self, ldn, c_spec_l2Good, r_spec_l2Good, h1.len, g0']
    refine callH_rc (l2Row_rc _ v1 k.need k.need.length 20 (h1.ext _)) ?_
    rintro r new ⟨rfl, nr1⟩
    subst nr1
    cases b1 : Go.Proofs.Ytibkaclkaigflaa.rowB k.need k.need.length 20 with
    | false =>
      simp (config := {implicitDefEqProofs := false, maxDischargeDepth := 20}) (disch := first | omega | (simp only [lenE]; done) | (simp only [lenE]; omega) | rfl | (simp only [lenE, markR_len]; done) | (simp only [lenE, markR_len]; omega)) only [runE, mapE, listE, initT_5, initT_6, initT_7, initT_8, resV, oneV, binA, unA, reduceCtorEq, Nat.reduceEqDiff, Nat.reduceAdd, Nat.reduceLT, Nat.reduceLeDiff, Nat.reduceMul, Nat.reduceSub, ↓reduceIte, decide_true, decide_false, Bool.true_eq_false, Bool.false_eq_true, Bool.not_true, Bool.not_false, if_true, if_false, and_true, true_and, memE, celE, w64, Nat.zero_add, Nat.add_zero, Nat.mul_one, putL, and_self, ldn]
      try simp only [List.append_assoc, List.cons_append, List.nil_append, List.append_nil]
      exact ⟨_, rfl, by (repeat (first | exact noRo_nil | assumption | apply noRo_own | apply noRo_dead | apply noRo_app)), by simp, by (repeat (first | exact noRo_nil | assumption | apply noRo_own | apply noRo_dead | apply noRo_app))⟩
    | true =>
      simp (config := {implicitDefEqProofs := false, maxDischargeDepth := 20}) (disch := first | omega | (simp only [lenE]; done) | (simp only [lenE]; omega) | rfl | (simp only [lenE, markR_len]; done) | (simp only [lenE, markR_len]; omega)) only [runE, mapE, listE, initT_5, initT_6, initT_7, initT_8, resV, oneV, binA, unA, reduceCtorEq, Nat.reduceEqDiff, Nat.reduceAdd, Nat.reduceLT, Nat.reduceLeDiff, Nat.reduceMul, Nat.reduceSub, ↓reduceIte, decide_true, decide_false, Bool.true_eq_false, Bool.false_eq_true, Bool.not_true, Bool.not_false, if_true, if_false, and_true, true_and, memE, celE, w64, Nat.zero_add, Nat.add_zero, Nat.mul_one, putL, and_self, ldn]
      refine callH_rc (l2Row_rc _ v2 k.setup k.need.length 99 (h2.ext _)) ?_
      rintro r new ⟨rfl, nr2⟩
      subst nr2
      cases b2 : Go.Proofs.Ytibkaclkaigflaa.rowB k.setup k.need.length 99 with
      | false =>
        simp (config := {implicitDefEqProofs := false, maxDischargeDepth := 20}) (disch := first | omega | (simp only [lenE]; done) | (simp only [lenE]; omega) | rfl | (simp only [lenE, markR_len]; done) | (simp only [lenE, markR_len]; omega)) only [runE, mapE, listE, initT_5, initT_6, initT_7, initT_8, resV, oneV, binA, unA, reduceCtorEq, Nat.reduceEqDiff, Nat.reduceAdd, Nat.reduceLT, Nat.reduceLeDiff, Nat.reduceMul, Nat.reduceSub, ↓reduceIte, decide_true, decide_false, Bool.true_eq_false, Bool.false_eq_true, Bool.not_true, Bool.not_false, if_true, if_false, and_true, true_and, memE, celE, w64, Nat.zero_add, Nat.add_zero, Nat.mul_one, putL, and_self, ldn]
        try simp only [List.append_assoc, List.cons_append, List.nil_append, List.append_nil]
        exact ⟨_, rfl, by (repeat (first | exact noRo_nil | assumption | apply noRo_own | apply noRo_dead | apply noRo_app)), by simp, by (repeat (first | exact noRo_nil | assumption | apply noRo_own | apply noRo_dead | apply noRo_app))⟩
      | true =>
        simp (config := {implicitDefEqProofs := false, maxDischargeDepth := 20}) (disch := first | omega | (simp only [lenE]; done) | (simp only [lenE]; omega) | rfl | (simp only [lenE, markR_len]; done) | (simp only [lenE, markR_len]; omega)) only [runE, mapE, listE, initT_5, initT_6, initT_7, initT_8, resV, oneV, binA, unA, reduceCtorEq, Nat.reduceEqDiff, Nat.reduceAdd, Nat.reduceLT, Nat.reduceLeDiff, Nat.reduceMul, Nat.reduceSub, ↓reduceIte, decide_true, decide_false, Bool.true_eq_false, Bool.false_eq_true, Bool.not_true, Bool.not_false, if_true, if_false, and_true, true_and, memE, celE, w64, Nat.zero_add, Nat.add_zero, Nat.mul_one, putL, and_self, ldn]
        refine callH_rc (l2Row_rc _ v3 k.unit k.need.length 9 (h3.ext _)) ?_
        rintro r new ⟨rfl, nr3⟩
        subst nr3
        cases b3 : Go.Proofs.Ytibkaclkaigflaa.rowB k.unit k.need.length 9 with
        | false =>
          simp (config := {implicitDefEqProofs := false, maxDischargeDepth := 20}) (disch := first | omega | (simp only [lenE]; done) | (simp only [lenE]; omega) | rfl | (simp only [lenE, markR_len]; done) | (simp only [lenE, markR_len]; omega)) only [runE, mapE, listE, initT_5, initT_6, initT_7, initT_8, resV, oneV, binA, unA, reduceCtorEq, Nat.reduceEqDiff, Nat.reduceAdd, Nat.reduceLT, Nat.reduceLeDiff, Nat.reduceMul, Nat.reduceSub, ↓reduceIte, decide_true, decide_false, Bool.true_eq_false, Bool.false_eq_true, Bool.not_true, Bool.not_false, if_true, if_false, and_true, true_and, memE, celE, w64, Nat.zero_add, Nat.add_zero, Nat.mul_one, putL, and_self, ldn]
          try simp only [List.append_assoc, List.cons_append, List.nil_append, List.append_nil]
          exact ⟨_, rfl, by (repeat (first | exact noRo_nil | assumption | apply noRo_own | apply noRo_dead | apply noRo_app)), by simp, by (repeat (first | exact noRo_nil | assumption | apply noRo_own | apply noRo_dead | apply noRo_app))⟩
        | true =>
          simp (config := {implicitDefEqProofs := false, maxDischargeDepth := 20}) (disch := first | omega | (simp only [lenE]; done) | (simp only [lenE]; omega) | rfl | (simp only [lenE, markR_len]; done) | (simp only [lenE, markR_len]; omega)) only [runE, mapE, listE, initT_5, initT_6, initT_7, initT_8, resV, oneV, binA, unA, reduceCtorEq, Nat.reduceEqDiff, Nat.reduceAdd, Nat.reduceLT, Nat.reduceLeDiff, Nat.reduceMul, Nat.reduceSub, ↓reduceIte, decide_true, decide_false, Bool.true_eq_false, Bool.false_eq_true, Bool.not_true, Bool.not_false, if_true, if_false, and_true, true_and, memE, celE, w64, Nat.zero_add, Nat.add_zero, Nat.mul_one, putL, and_self, ldn]
          refine callH_rc (l2Row_rc _ v4 k.hold k.need.length 9 (h4.ext _)) ?_
          rintro r new ⟨rfl, nr4⟩
          subst nr4
          simp (config := {implicitDefEqProofs := false, maxDischargeDepth := 20}) (disch := first | omega | (simp only [lenE]; done) | (simp only [lenE]; omega) | rfl | (simp only [lenE, markR_len]; done) | (simp only [lenE, markR_len]; omega)) only [runE, mapE, listE, initT_5, initT_6, initT_7, initT_8, resV, oneV, binA, unA, reduceCtorEq, Nat.reduceEqDiff, Nat.reduceAdd, Nat.reduceLT, Nat.reduceLeDiff, Nat.reduceMul, Nat.reduceSub, ↓reduceIte, decide_true, decide_false, Bool.true_eq_false, Bool.false_eq_true, Bool.not_true, Bool.not_false, if_true, if_false, and_true, true_and, memE, celE, w64, Nat.zero_add, Nat.add_zero, Nat.mul_one, putL, and_self, ldn]
          try simp only [List.append_assoc, List.cons_append, List.nil_append, List.append_nil]
          exact ⟨_, rfl, by (repeat (first | exact noRo_nil | assumption | apply noRo_own | apply noRo_dead | apply noRo_app)), by simp [g0], by (repeat (first | exact noRo_nil | assumption | apply noRo_own | apply noRo_dead | apply noRo_app))⟩
  · have g0' : ¬ ((k.need.length : Int) ≤ 8) := by omega
    simp (config := {implicitDefEqProofs := false, maxDischargeDepth := 20}) (disch := first | omega | (simp only [lenE]; done) | (simp only [lenE]; omega) | rfl | (simp only [lenE, markR_len]; done) | (simp only [lenE, markR_len]; omega)) only [runE, mapE, listE, initT_5, initT_6, initT_7, initT_8, resV, oneV, binA, unA, reduceCtorEq, Nat.reduceEqDiff, Nat.reduceAdd, Nat.reduceLT, Nat.reduceLeDiff, Nat.reduceMul, Nat.reduceSub, ↓reduceIte, decide_true, decide_false, Bool.true_eq_false, Bool.false_eq_true, Bool.not_true, Bool.not_false, if_true, if_false, and_true, true_and, memE, celE, w64, Nat.zero_add, Nat.add_zero, Nat.mul_one, putL, and_self, ldn, c_spec_l2Good, r_spec_l2Good, h1.len, g0']
    exact ⟨_, rfl, by (repeat (first | exact noRo_nil | assumption | apply noRo_own | apply noRo_dead | apply noRo_app)), by simp [g0], by (repeat (first | exact noRo_nil | assumption | apply noRo_own | apply noRo_dead | apply noRo_app))⟩

def TestA (m : Mem) (fv : Value) (f : Int → Bool) : Prop :=
  ∃ g cap, fv = .func (.func g) #[] cap ∧ ∀ x m', (∀ id k v, rdc m id k = some v → rdc m' id k = some v) → RC Try.prog g (.int .i64 x :: cap.toList) m' fun r new => r = .bool (f x) ∧ new = []

theorem isWithin_rc (m : Mem) (x most : Int) : RC Try.prog 45 [.int .i64 x, .int .i64 most] m fun r new => r = .bool (inB most x) ∧ new = [] := by
  refine rc_of_run mixed ok_impl_isWithin (by simp) (go_start _ _ _ ?_)
  by_cases h1 : 0 ≤ x <;> by_cases h2 : x ≤ most
  all_goals
    simp (config := {implicitDefEqProofs := false, maxDischargeDepth := 20}) (disch := first | omega | (simp only [lenE]; done) | (simp only [lenE]; omega) | rfl | (simp only [lenE, markR_len]; done) | (simp only [lenE, markR_len]; omega)) only [runE, mapE, listE, initT_5, initT_6, initT_7, initT_8, resV, oneV, binA, unA, reduceCtorEq, Nat.reduceEqDiff, Nat.reduceAdd, Nat.reduceLT, Nat.reduceLeDiff, Nat.reduceMul, Nat.reduceSub, ↓reduceIte, decide_true, decide_false, Bool.true_eq_false, Bool.false_eq_true, Bool.not_true, Bool.not_false, if_true, if_false, and_true, true_and, memE, celE, w64, Nat.zero_add, Nat.add_zero, Nat.mul_one, putL, and_self, ldn, c_impl_isWithin, r_impl_isWithin, h1, h2, ge_iff_le]
    exact newQ_nil ⟨by simp [inB, h1, h2], rfl⟩

theorem isRow1_test (m : Mem) (id : Nat) (most : Int) (h : rdc m id 0 = some (.int .i64 most)) :
    TestA m (.func (.func 44) #[] #[.pointer (some ⟨id, 0, none⟩)]) (fun x => !inB most x) := by
  refine ⟨_, _, rfl, fun x m' hm => ?_⟩
  refine rc_of_run mixed ok_impl_isRow_1 (by simp) (go_start _ _ _ ?_)
  have h' : rdc (roM m') id 0 = some (.int .i64 most) := by rw [rdc_roM]; exact hm _ _ _ h
  simp (config := {implicitDefEqProofs := false, maxDischargeDepth := 20}) (disch := first | omega | (simp only [lenE]; done) | (simp only [lenE]; omega) | rfl | (simp only [lenE, markR_len]; done) | (simp only [lenE, markR_len]; omega)) only [runE, mapE, listE, initT_5, initT_6, initT_7, initT_8, resV, oneV, binA, unA, reduceCtorEq, Nat.reduceEqDiff, Nat.reduceAdd, Nat.reduceLT, Nat.reduceLeDiff, Nat.reduceMul, Nat.reduceSub, ↓reduceIte, decide_true, decide_false, Bool.true_eq_false, Bool.false_eq_true, Bool.not_true, Bool.not_false, if_true, if_false, and_true, true_and, memE, celE, w64, Nat.zero_add, Nat.add_zero, Nat.mul_one, putL, and_self, ldn, c_impl_isRow_1, r_impl_isRow_1, h']
  refine callH_rc (isWithin_rc _ x most) ?_
  rintro r new ⟨rfl, rfl⟩
  simp (config := {implicitDefEqProofs := false, maxDischargeDepth := 20}) (disch := first | omega | (simp only [lenE]; done) | (simp only [lenE]; omega) | rfl | (simp only [lenE, markR_len]; done) | (simp only [lenE, markR_len]; omega)) only [runE, mapE, listE, initT_5, initT_6, initT_7, initT_8, resV, oneV, binA, unA, reduceCtorEq, Nat.reduceEqDiff, Nat.reduceAdd, Nat.reduceLT, Nat.reduceLeDiff, Nat.reduceMul, Nat.reduceSub, ↓reduceIte, decide_true, decide_false, Bool.true_eq_false, Bool.false_eq_true, Bool.not_true, Bool.not_false, if_true, if_false, and_true, true_and, memE, celE, w64, Nat.zero_add, Nat.add_zero, Nat.mul_one, putL, and_self, ldn]
  exact newQ_nil ⟨rfl, rfl⟩

def firstAt (f : Int → Bool) : List Int → Nat → Int
  | [], _ => -1
  | x :: l, k => if f x then k else firstAt f l (k + 1)
theorem firstAt_step {f : Int → Bool} {l : List Int} {k : Nat} (h : k < l.length) : firstAt f (l.drop k) k = if f (l.getD k 0) then (k : Int) else firstAt f (l.drop (k + 1)) (k + 1) := by
  rw [List.drop_eq_getElem_cons h, firstAt, List.getD_eq_getElem?_getD, List.getElem?_eq_getElem h]; rfl
theorem firstAt_any (f : Int → Bool) (l : List Int) : ∀ k : Nat, decide (0 ≤ firstAt f l k) = l.any f ∧ -1 ≤ firstAt f l k ∧ firstAt f l k ≤ k + l.length := by
  induction l with
  | nil => intro k; simp [firstAt]
  | cons x l ih =>
    intro k
    obtain ⟨h1, h2, h3⟩ := ih (k + 1)
    rw [firstAt]
    cases hx : f x
    · simp [hx, h1]; omega
    · simp [hx]; omega

theorem indexFunc_rc (m : Mem) (v fv : Value) (l : List Int) (f : Int → Bool) (h : IntsA m v l) (hf : TestA m fv f) :
    RC Try.prog 58 [v, fv] m fun r new => r = .int .i64 (firstAt f l 0) ∧ new = [] := by
  refine rc_of_run mixed ok_slices_IndexFunc (by simp) (go_start _ _ _ ?_)
  obtain ⟨e1, e2, e3, e4, -⟩ := h.ro
  obtain ⟨g, cap, rfl, hg⟩ := hf
  simp (config := {implicitDefEqProofs := false, maxDischargeDepth := 20}) (disch := first | omega | (simp only [lenE]; done) | (simp only [lenE]; omega) | rfl | (simp only [lenE, markR_len]; done) | (simp only [lenE, markR_len]; omega)) only [runE, mapE, listE, initT_5, initT_6, initT_7, initT_8, resV, oneV, binA, unA, reduceCtorEq, Nat.reduceEqDiff, Nat.reduceAdd, Nat.reduceLT, Nat.reduceLeDiff, Nat.reduceMul, Nat.reduceSub, ↓reduceIte, decide_true, decide_false, Bool.true_eq_false, Bool.false_eq_true, Bool.not_true, Bool.not_false, if_true, if_false, and_true, true_and, memE, celE, w64, Nat.zero_add, Nat.add_zero, Nat.mul_one, putL, and_self, ldn, c_slices_IndexFunc, r_slices_IndexFunc, e1]
  refine loop_inv mixed (fun s => ∃ k : Nat, k ≤ l.length ∧ s.t 0 = v ∧ s.t 1 = .func (.func g) #[] cap ∧ s.t 7 = .int .i64 l.length ∧ s.t 8 = .int .i64 k ∧ s.m = roM m ∧ firstAt f l 0 = firstAt f (l.drop k) k) (fun s => l.length - (intOf (s.t 8)).toNat) ⟨0, by omega, rfl, rfl, rfl, rfl, rfl, rfl⟩ ?_
  rintro s ⟨k, hk, t0, t1, t7, t8, tm, hall⟩
  by_cases hlt : k < l.length
  · have hlt' : (k : Int) < l.length := by omega
    simp (config := {implicitDefEqProofs := false, maxDischargeDepth := 20}) (disch := first | omega | (simp only [lenE]; done) | (simp only [lenE]; omega) | rfl | (simp only [lenE, markR_len]; done) | (simp only [lenE, markR_len]; omega)) only [runE, mapE, listE, initT_5, initT_6, initT_7, initT_8, resV, oneV, binA, unA, reduceCtorEq, Nat.reduceEqDiff, Nat.reduceAdd, Nat.reduceLT, Nat.reduceLeDiff, Nat.reduceMul, Nat.reduceSub, ↓reduceIte, decide_true, decide_false, Bool.true_eq_false, Bool.false_eq_true, Bool.not_true, Bool.not_false, if_true, if_false, and_true, true_and, memE, celE, w64, Nat.zero_add, Nat.add_zero, Nat.mul_one, putL, and_self, ldn, t0, t1, t7, t8, tm, e1, e3 k hlt, e4 k hlt, hlt']
    refine callH_rc (hg _ _ fun id k v hv => by rw [rdc_roM]; exact hv) ?_
    rintro r new ⟨rfl, rfl⟩
    rw [firstAt_step hlt] at hall
    cases hb : f (l.getD k 0) with
    | true =>
      simp (config := {implicitDefEqProofs := false, maxDischargeDepth := 20}) (disch := first | omega | (simp only [lenE]; done) | (simp only [lenE]; omega) | rfl | (simp only [lenE, markR_len]; done) | (simp only [lenE, markR_len]; omega)) only [runE, mapE, listE, initT_5, initT_6, initT_7, initT_8, resV, oneV, binA, unA, reduceCtorEq, Nat.reduceEqDiff, Nat.reduceAdd, Nat.reduceLT, Nat.reduceLeDiff, Nat.reduceMul, Nat.reduceSub, ↓reduceIte, decide_true, decide_false, Bool.true_eq_false, Bool.false_eq_true, Bool.not_true, Bool.not_false, if_true, if_false, and_true, true_and, memE, celE, w64, Nat.zero_add, Nat.add_zero, Nat.mul_one, putL, and_self, ldn, t0, t1, t7, t8, tm]
      exact newQ_nil ⟨by rw [hall, hb]; rfl, rfl⟩
    | false =>
      simp (config := {implicitDefEqProofs := false, maxDischargeDepth := 20}) (disch := first | omega | (simp only [lenE]; done) | (simp only [lenE]; omega) | rfl | (simp only [lenE, markR_len]; done) | (simp only [lenE, markR_len]; omega)) only [runE, mapE, listE, initT_5, initT_6, initT_7, initT_8, resV, oneV, binA, unA, reduceCtorEq, Nat.reduceEqDiff, Nat.reduceAdd, Nat.reduceLT, Nat.reduceLeDiff, Nat.reduceMul, Nat.reduceSub, ↓reduceIte, decide_true, decide_false, Bool.true_eq_false, Bool.false_eq_true, Bool.not_true, Bool.not_false, if_true, if_false, and_true, true_and, memE, celE, w64, Nat.zero_add, Nat.add_zero, Nat.mul_one, putL, and_self, ldn, t0, t1, t7, t8, tm]
      rw [hb] at hall
      refine ⟨⟨k + 1, by omega, by simp, hall⟩, ?_⟩
      simp [intOf]; omega
  · have hlt' : ¬ ((k : Int) < l.length) := by omega
    simp (config := {implicitDefEqProofs := false, maxDischargeDepth := 20}) (disch := first | omega | (simp only [lenE]; done) | (simp only [lenE]; omega) | rfl | (simp only [lenE, markR_len]; done) | (simp only [lenE, markR_len]; omega)) only [runE, mapE, listE, initT_5, initT_6, initT_7, initT_8, resV, oneV, binA, unA, reduceCtorEq, Nat.reduceEqDiff, Nat.reduceAdd, Nat.reduceLT, Nat.reduceLeDiff, Nat.reduceMul, Nat.reduceSub, ↓reduceIte, decide_true, decide_false, Bool.true_eq_false, Bool.false_eq_true, Bool.not_true, Bool.not_false, if_true, if_false, and_true, true_and, memE, celE, w64, Nat.zero_add, Nat.add_zero, Nat.mul_one, putL, and_self, ldn, t0, t1, t7, t8, tm, e1, hlt']
    exact newQ_nil ⟨by rw [hall, List.drop_eq_nil_of_le (by omega)]; rfl, rfl⟩

theorem containsFunc_rc (m : Mem) (v fv : Value) (l : List Int) (f : Int → Bool) (h : IntsA m v l) (hf : TestA m fv f) :
    RC Try.prog 46 [v, fv] m fun r new => r = .bool (l.any f) ∧ new = [] := by
  refine rc_of_run mixed ok_slices_ContainsFunc (by simp) (go_start _ _ _ ?_)
  have hf' : TestA (roM m) fv f := by
    obtain ⟨g, cap, rfl, hg⟩ := hf
    exact ⟨g, cap, rfl, fun x m' hm => hg x m' fun id k v hv => hm id k v (by rw [rdc_roM]; exact hv)⟩
  simp (config := {implicitDefEqProofs := false, maxDischargeDepth := 20}) (disch := first | omega | (simp only [lenE]; done) | (simp only [lenE]; omega) | rfl | (simp only [lenE, markR_len]; done) | (simp only [lenE, markR_len]; omega)) only [runE, mapE, listE, initT_5, initT_6, initT_7, initT_8, resV, oneV, binA, unA, reduceCtorEq, Nat.reduceEqDiff, Nat.reduceAdd, Nat.reduceLT, Nat.reduceLeDiff, Nat.reduceMul, Nat.reduceSub, ↓reduceIte, decide_true, decide_false, Bool.true_eq_false, Bool.false_eq_true, Bool.not_true, Bool.not_false, if_true, if_false, and_true, true_and, memE, celE, w64, Nat.zero_add, Nat.add_zero, Nat.mul_one, putL, and_self, ldn, c_slices_ContainsFunc, r_slices_ContainsFunc]
  refine callH_rc (indexFunc_rc _ v fv l f h.ro hf') ?_
  rintro r new ⟨rfl, rfl⟩
  simp (config := {implicitDefEqProofs := false, maxDischargeDepth := 20}) (disch := first | omega | (simp only [lenE]; done) | (simp only [lenE]; omega) | rfl | (simp only [lenE, markR_len]; done) | (simp only [lenE, markR_len]; omega)) only [runE, mapE, listE, initT_5, initT_6, initT_7, initT_8, resV, oneV, binA, unA, reduceCtorEq, Nat.reduceEqDiff, Nat.reduceAdd, Nat.reduceLT, Nat.reduceLeDiff, Nat.reduceMul, Nat.reduceSub, ↓reduceIte, decide_true, decide_false, Bool.true_eq_false, Bool.false_eq_true, Bool.not_true, Bool.not_false, if_true, if_false, and_true, true_and, memE, celE, w64, Nat.zero_add, Nat.add_zero, Nat.mul_one, putL, and_self, ldn, ge_iff_le]
  exact newQ_nil ⟨by rw [(firstAt_any f l 0).1], rfl⟩

theorem isRow_rc (m : Mem) (v : Value) (l : List Int) (n : Nat) (most : Int) (h : IntsA m v l) :
    RC Try.prog 34 [v, .int .i64 n, .int .i64 most] m (AnsV (.bool (Go.Proofs.Ytibkaclkaigflaa.rowB l n most))) := by
  refine rc_of_run mixed ok_impl_isRow (by simp) (go_start _ _ _ ?_)
  have hr := h.ro
  rw [rowB_all]
  by_cases hn : l.length = n
  · have hn' : ((l.length : Int) == n) = true := by simp; omega
    simp (config := {implicitDefEqProofs := false, maxDischargeDepth := 20}) (disch := first | omega | (simp only [lenE]; done) | (simp only [lenE]; omega) | rfl | (simp only [lenE, markR_len]; done) | (simp only [lenE, markR_len]; omega)) only [runE, mapE, listE, initT_5, initT_6, initT_7, initT_8, resV, oneV, binA, unA, reduceCtorEq, Nat.reduceEqDiff, Nat.reduceAdd, Nat.reduceLT, Nat.reduceLeDiff, Nat.reduceMul, Nat.reduceSub, ↓reduceIte, decide_true, decide_false, Bool.true_eq_false, Bool.false_eq_true, Bool.not_true, Bool.not_false, if_true, if_false, and_true, true_and, memE, celE, w64, Nat.zero_add, Nat.add_zero, Nat.mul_one, putL, and_self, ldn, c_impl_isRow, r_impl_isRow, hr.len, hn', eq_self]
    have hp : rdc (roM m ++ [⟨.own, 3, [.int .i64 most]⟩]) m.length 0 = some (.int .i64 most) := by simp (config := {implicitDefEqProofs := false, maxDischargeDepth := 20}) (disch := first | omega | (simp only [lenE]; done) | (simp only [lenE]; omega) | rfl | (simp only [lenE, markR_len]; done) | (simp only [lenE, markR_len]; omega)) only [runE, mapE, listE, initT_5, initT_6, initT_7, initT_8, resV, oneV, binA, unA, reduceCtorEq, Nat.reduceEqDiff, Nat.reduceAdd, Nat.reduceLT, Nat.reduceLeDiff, Nat.reduceMul, Nat.reduceSub, ↓reduceIte, decide_true, decide_false, Bool.true_eq_false, Bool.false_eq_true, Bool.not_true, Bool.not_false, if_true, if_false, and_true, true_and, memE, celE, w64, Nat.zero_add, Nat.add_zero, Nat.mul_one, putL, and_self, ldn]
    refine callH_rc (containsFunc_rc _ v _ l (fun x => !inB most x) (hr.ext _) (isRow1_test _ _ most hp)) ?_
    rintro r new ⟨rfl, rfl⟩
    simp (config := {implicitDefEqProofs := false, maxDischargeDepth := 20}) (disch := first | omega | (simp only [lenE]; done) | (simp only [lenE]; omega) | rfl | (simp only [lenE, markR_len]; done) | (simp only [lenE, markR_len]; omega)) only [runE, mapE, listE, initT_5, initT_6, initT_7, initT_8, resV, oneV, binA, unA, reduceCtorEq, Nat.reduceEqDiff, Nat.reduceAdd, Nat.reduceLT, Nat.reduceLeDiff, Nat.reduceMul, Nat.reduceSub, ↓reduceIte, decide_true, decide_false, Bool.true_eq_false, Bool.false_eq_true, Bool.not_true, Bool.not_false, if_true, if_false, and_true, true_and, memE, celE, w64, Nat.zero_add, Nat.add_zero, Nat.mul_one, putL, and_self, ldn]
    exact ⟨_, rfl, by (repeat (first | exact noRo_nil | assumption | apply noRo_own | apply noRo_dead | apply noRo_app)), by simp [hn, List.any_eq_not_all_not], by (repeat (first | exact noRo_nil | assumption | apply noRo_own | apply noRo_dead | apply noRo_app))⟩
  · have hn' : ((l.length : Int) == n) = false := by simp; omega
    simp (config := {implicitDefEqProofs := false, maxDischargeDepth := 20}) (disch := first | omega | (simp only [lenE]; done) | (simp only [lenE]; omega) | rfl | (simp only [lenE, markR_len]; done) | (simp only [lenE, markR_len]; omega)) only [runE, mapE, listE, initT_5, initT_6, initT_7, initT_8, resV, oneV, binA, unA, reduceCtorEq, Nat.reduceEqDiff, Nat.reduceAdd, Nat.reduceLT, Nat.reduceLeDiff, Nat.reduceMul, Nat.reduceSub, ↓reduceIte, decide_true, decide_false, Bool.true_eq_false, Bool.false_eq_true, Bool.not_true, Bool.not_false, if_true, if_false, and_true, true_and, memE, celE, w64, Nat.zero_add, Nat.add_zero, Nat.mul_one, putL, and_self, ldn, c_impl_isRow, r_impl_isRow, hr.len, hn']
    exact ⟨_, rfl, by (repeat (first | exact noRo_nil | assumption | apply noRo_own | apply noRo_dead | apply noRo_app)), by simp [hn], by (repeat (first | exact noRo_nil | assumption | apply noRo_own | apply noRo_dead | apply noRo_app))⟩

theorem implIsCase_rc (m : Mem) (v : Value) (k : Cs) (h : CaseA m v k) : RC Try.prog 20 [v] m (AnsV (.bool k.good)) := by
  refine rc_of_run mixed ok_impl_IsCase (by simp) (go_start _ _ _ ?_)
  obtain ⟨v1, v2, v3, v4, rfl, h1, h2, h3, h4⟩ := h.ro.ok
  unfold Cs.good
  by_cases g0 : k.need.length ≤ 8
  · have g0' : (k.need.length : Int) ≤ 8 := by omega
    simp (config := {implicitDefEqProofs := false, maxDischargeDepth := 20}) (disch := first | omega | (simp only [lenE]; done) | (simp only [lenE]; omega) | rfl | (simp only [lenE, markR_len]; done) | (simp only [lenE, markR_len]; omega)) only [runE, mapE, listE, initT_5, initT_6, initT_7, initT_8, resV, oneV, binA, unA, reduceCtorEq, Nat.reduceEqDiff, Nat.reduceAdd, Nat.reduceLT, Nat.reduceLeDiff, Nat.reduceMul, Nat.reduceSub, ↓reduceIte, decide_true, decide_false, Bool.true_eq_false, Bool.false_eq_true, Bool.not_true, Bool.not_false, if_true, if_false, and_true, true_and, memE, celE, w64, Nat.zero_add, Nat.add_zero, Nat.mul_one, putL, and_self, ldn, c_impl_IsCase, r_impl_IsCase, h1.len, g0']
    refine callH_rc (isRow_rc _ v1 k.need k.need.length 20 (h1.ext _)) ?_
    rintro r new ⟨rfl, nr1⟩
    skip
    cases b1 : Go.Proofs.Ytibkaclkaigflaa.rowB k.need k.need.length 20 with
    | false =>
      simp (config := {implicitDefEqProofs := false, maxDischargeDepth := 20}) (disch := first | omega | (simp only [lenE]; done) | (simp only [lenE]; omega) | rfl | (simp only [lenE, markR_len]; done) | (simp only [lenE, markR_len]; omega)) only [runE, mapE, listE, initT_5, initT_6, initT_7, initT_8, resV, oneV, binA, unA, reduceCtorEq, Nat.reduceEqDiff, Nat.reduceAdd, Nat.reduceLT, Nat.reduceLeDiff, Nat.reduceMul, Nat.reduceSub, ↓reduceIte, decide_true, decide_false, Bool.true_eq_false, Bool.false_eq_true, Bool.not_true, Bool.not_false, if_true, if_false, and_true, true_and, memE, celE, w64, Nat.zero_add, Nat.add_zero, Nat.mul_one, putL, and_self, ldn]
      try simp only [List.append_assoc, List.cons_append, List.nil_append, List.append_nil]
      exact ⟨_, rfl, by (repeat (first | exact noRo_nil | assumption | apply noRo_own | apply noRo_dead | apply noRo_app)), by simp, by (repeat (first | exact noRo_nil | assumption | apply noRo_own | apply noRo_dead | apply noRo_app))⟩
    | true =>
      simp (config := {implicitDefEqProofs := false, maxDischargeDepth := 20}) (disch := first | omega | (simp only [lenE]; done) | (simp only [lenE]; omega) | rfl | (simp only [lenE, markR_len]; done) | (simp only [lenE, markR_len]; omega)) only [runE, mapE, listE, initT_5, initT_6, initT_7, initT_8, resV, oneV, binA, unA, reduceCtorEq, Nat.reduceEqDiff, Nat.reduceAdd, Nat.reduceLT, Nat.reduceLeDiff, Nat.reduceMul, Nat.reduceSub, ↓reduceIte, decide_true, decide_false, Bool.true_eq_false, Bool.false_eq_true, Bool.not_true, Bool.not_false, if_true, if_false, and_true, true_and, memE, celE, w64, Nat.zero_add, Nat.add_zero, Nat.mul_one, putL, and_self, ldn]
      refine callH_rc (isRow_rc _ v2 k.setup k.need.length 99 ((h2.ext _).ext _)) ?_
      rintro r new ⟨rfl, nr2⟩
      skip
      cases b2 : Go.Proofs.Ytibkaclkaigflaa.rowB k.setup k.need.length 99 with
      | false =>
        simp (config := {implicitDefEqProofs := false, maxDischargeDepth := 20}) (disch := first | omega | (simp only [lenE]; done) | (simp only [lenE]; omega) | rfl | (simp only [lenE, markR_len]; done) | (simp only [lenE, markR_len]; omega)) only [runE, mapE, listE, initT_5, initT_6, initT_7, initT_8, resV, oneV, binA, unA, reduceCtorEq, Nat.reduceEqDiff, Nat.reduceAdd, Nat.reduceLT, Nat.reduceLeDiff, Nat.reduceMul, Nat.reduceSub, ↓reduceIte, decide_true, decide_false, Bool.true_eq_false, Bool.false_eq_true, Bool.not_true, Bool.not_false, if_true, if_false, and_true, true_and, memE, celE, w64, Nat.zero_add, Nat.add_zero, Nat.mul_one, putL, and_self, ldn]
        try simp only [List.append_assoc, List.cons_append, List.nil_append, List.append_nil]
        exact ⟨_, rfl, by (repeat (first | exact noRo_nil | assumption | apply noRo_own | apply noRo_dead | apply noRo_app)), by simp, by (repeat (first | exact noRo_nil | assumption | apply noRo_own | apply noRo_dead | apply noRo_app))⟩
      | true =>
        simp (config := {implicitDefEqProofs := false, maxDischargeDepth := 20}) (disch := first | omega | (simp only [lenE]; done) | (simp only [lenE]; omega) | rfl | (simp only [lenE, markR_len]; done) | (simp only [lenE, markR_len]; omega)) only [runE, mapE, listE, initT_5, initT_6, initT_7, initT_8, resV, oneV, binA, unA, reduceCtorEq, Nat.reduceEqDiff, Nat.reduceAdd, Nat.reduceLT, Nat.reduceLeDiff, Nat.reduceMul, Nat.reduceSub, ↓reduceIte, decide_true, decide_false, Bool.true_eq_false, Bool.false_eq_true, Bool.not_true, Bool.not_false, if_true, if_false, and_true, true_and, memE, celE, w64, Nat.zero_add, Nat.add_zero, Nat.mul_one, putL, and_self, ldn]
        refine callH_rc (isRow_rc _ v3 k.unit k.need.length 9 (((h3.ext _).ext _).ext _)) ?_
        rintro r new ⟨rfl, nr3⟩
        skip
        cases b3 : Go.Proofs.Ytibkaclkaigflaa.rowB k.unit k.need.length 9 with
        | false =>
          simp (config := {implicitDefEqProofs := false, maxDischargeDepth := 20}) (disch := first | omega | (simp only [lenE]; done) | (simp only [lenE]; omega) | rfl | (simp only [lenE, markR_len]; done) | (simp only [lenE, markR_len]; omega)) only [runE, mapE, listE, initT_5, initT_6, initT_7, initT_8, resV, oneV, binA, unA, reduceCtorEq, Nat.reduceEqDiff, Nat.reduceAdd, Nat.reduceLT, Nat.reduceLeDiff, Nat.reduceMul, Nat.reduceSub, ↓reduceIte, decide_true, decide_false, Bool.true_eq_false, Bool.false_eq_true, Bool.not_true, Bool.not_false, if_true, if_false, and_true, true_and, memE, celE, w64, Nat.zero_add, Nat.add_zero, Nat.mul_one, putL, and_self, ldn]
          try simp only [List.append_assoc, List.cons_append, List.nil_append, List.append_nil]
          exact ⟨_, rfl, by (repeat (first | exact noRo_nil | assumption | apply noRo_own | apply noRo_dead | apply noRo_app)), by simp, by (repeat (first | exact noRo_nil | assumption | apply noRo_own | apply noRo_dead | apply noRo_app))⟩
        | true =>
          simp (config := {implicitDefEqProofs := false, maxDischargeDepth := 20}) (disch := first | omega | (simp only [lenE]; done) | (simp only [lenE]; omega) | rfl | (simp only [lenE, markR_len]; done) | (simp only [lenE, markR_len]; omega)) only [runE, mapE, listE, initT_5, initT_6, initT_7, initT_8, resV, oneV, binA, unA, reduceCtorEq, Nat.reduceEqDiff, Nat.reduceAdd, Nat.reduceLT, Nat.reduceLeDiff, Nat.reduceMul, Nat.reduceSub, ↓reduceIte, decide_true, decide_false, Bool.true_eq_false, Bool.false_eq_true, Bool.not_true, Bool.not_false, if_true, if_false, and_true, true_and, memE, celE, w64, Nat.zero_add, Nat.add_zero, Nat.mul_one, putL, and_self, ldn]
          refine callH_rc (isRow_rc _ v4 k.hold k.need.length 9 ((((h4.ext _).ext _).ext _).ext _)) ?_
          rintro r new ⟨rfl, nr4⟩
          skip
          simp (config := {implicitDefEqProofs := false, maxDischargeDepth := 20}) (disch := first | omega | (simp only [lenE]; done) | (simp only [lenE]; omega) | rfl | (simp only [lenE, markR_len]; done) | (simp only [lenE, markR_len]; omega)) only [runE, mapE, listE, initT_5, initT_6, initT_7, initT_8, resV, oneV, binA, unA, reduceCtorEq, Nat.reduceEqDiff, Nat.reduceAdd, Nat.reduceLT, Nat.reduceLeDiff, Nat.reduceMul, Nat.reduceSub, ↓reduceIte, decide_true, decide_false, Bool.true_eq_false, Bool.false_eq_true, Bool.not_true, Bool.not_false, if_true, if_false, and_true, true_and, memE, celE, w64, Nat.zero_add, Nat.add_zero, Nat.mul_one, putL, and_self, ldn]
          try simp only [List.append_assoc, List.cons_append, List.nil_append, List.append_nil]
          exact ⟨_, rfl, by (repeat (first | exact noRo_nil | assumption | apply noRo_own | apply noRo_dead | apply noRo_app)), by simp [g0], by (repeat (first | exact noRo_nil | assumption | apply noRo_own | apply noRo_dead | apply noRo_app))⟩
  · have g0' : ¬ ((k.need.length : Int) ≤ 8) := by omega
    simp (config := {implicitDefEqProofs := false, maxDischargeDepth := 20}) (disch := first | omega | (simp only [lenE]; done) | (simp only [lenE]; omega) | rfl | (simp only [lenE, markR_len]; done) | (simp only [lenE, markR_len]; omega)) only [runE, mapE, listE, initT_5, initT_6, initT_7, initT_8, resV, oneV, binA, unA, reduceCtorEq, Nat.reduceEqDiff, Nat.reduceAdd, Nat.reduceLT, Nat.reduceLeDiff, Nat.reduceMul, Nat.reduceSub, ↓reduceIte, decide_true, decide_false, Bool.true_eq_false, Bool.false_eq_true, Bool.not_true, Bool.not_false, if_true, if_false, and_true, true_and, memE, celE, w64, Nat.zero_add, Nat.add_zero, Nat.mul_one, putL, and_self, ldn, c_impl_IsCase, r_impl_IsCase, h1.len, g0']
    exact ⟨_, rfl, by (repeat (first | exact noRo_nil | assumption | apply noRo_own | apply noRo_dead | apply noRo_app)), by simp [g0], by (repeat (first | exact noRo_nil | assumption | apply noRo_own | apply noRo_dead | apply noRo_app))⟩
end Go.Proofs.Ytibkaclkaigflaa.Ab
end
section
namespace Go.Proofs.Ytibkaclkaigflaa.Ab
open Go Go.RowKit
set_option linter.unusedVariables false
set_option linter.unusedSimpArgs false
theorem app_one {M : Mem} {l : List Int} {x : Int} {id id2 n : Nat} (h : id = M.length) (h2 : id2 = M.length + 1) (hn : n = l.length) (hb : l.length ≤ 1048576) :
    appP (M ++ [⟨.own, 3, l.map (Value.int .i64)⟩] ++ [⟨.own, 3, [.int .i64 x]⟩]) 3 1 8 (.slice (some ⟨id, 0, none⟩) n 1) (.slice (some ⟨id2, 0, none⟩) 1 1) =
      some (.slice (some ⟨M.length + 2, 0, none⟩) (n + 1) 1, M ++ [deadB, ⟨.own, 3, [.int .i64 x]⟩] ++ [⟨.own, 3, (l ++ [x]).map (Value.int .i64)⟩]) := by
  subst h h2 hn
  have e1 : slR (M ++ [⟨.own, 3, l.map (Value.int .i64)⟩] ++ [⟨.own, 3, [.int .i64 x]⟩]) 1 (.slice (some ⟨M.length + 1, 0, none⟩) 1 1) = some [.int .i64 x] := by
    simp only [slR, rdl, Nat.mul_one]
    rw [List.getElem?_append_right (by simp)]
    simp
  unfold appP
  rw [e1]
  simp only [onesB_int, onesB_nil, if_true, appA, lenOfA]
  rw [List.getElem?_append_left (by simp), List.getElem?_append_right (by simp)]
  simp only [Nat.sub_self, List.getElem?_cons_zero, List.length_map, Nat.mul_one, true_and]
  rw [if_pos (by omega)]
  have e2 : (M ++ [(⟨.own, 3, l.map (Value.int .i64)⟩ : Blk)] ++ [(⟨.own, 3, [.int .i64 x]⟩ : Blk)]).set M.length deadB = M ++ [deadB, (⟨.own, 3, [.int .i64 x]⟩ : Blk)] := by
    rw [List.append_assoc, List.set_append_right _ _ (Nat.le_refl _)]
    simp
  rw [e2]
  simp
theorem bsl_none {m : Mem} : bslA m 3 1 0 [] [] = some (.slice (some ⟨m.length, 0, none⟩) 0 1, m ++ [⟨.own, 3, ([] : List Int).map (Value.int .i64)⟩]) := rfl
theorem bsl_one {m : Mem} {y : Int} : bslA m 3 1 1 [.int .i64 0] [(0, 1, .int .i64 y)] = some (.slice (some ⟨m.length, 0, none⟩) 1 1, m ++ [⟨.own, 3, [.int .i64 y]⟩]) := rfl

def AnsR (m : Mem) (l : List Int) (r : Value) (new : Mem) : Prop :=
  NoRo new ∧ l.length ≤ 1048576 ∧ ∃ i fl, r = .slice (some ⟨m.length + i, 0, none⟩) l.length fl ∧ new[i]? = some (rowB l)
theorem AnsR.row {m new : Mem} {l : List Int} {r : Value} (h : AnsR m l r new) : ∃ id fl, r = .slice (some ⟨id, 0, none⟩) l.length fl ∧ m.length ≤ id ∧ OwnR (m ++ new) id l ∧ l.length ≤ 1048576 ∧ NoRo new := by
  obtain ⟨h1, h2, i, fl, rfl, h3⟩ := h
  exact ⟨_, fl, rfl, by omega, OwnR.new h3 rfl, h2, h1⟩
theorem ansL_end {m A : Mem} {l : List Int} {id n fl : Nat} {ok : Bool} (hA : NoRo A) (hid : id = m.length + A.length) (hn : n = l.length) (hl : l.length ≤ 1048576) :
    newQ m (AnsL m l ok) (.tuple #[.slice (some ⟨id, 0, none⟩) n fl, .bool ok]) (roM m ++ A ++ [⟨.own, 3, l.map (Value.int .i64)⟩]) := by
  subst hid hn
  refine ⟨A ++ [rowB l], by rw [List.append_assoc], noRo_app hA (noRo_own noRo_nil), noRo_app hA (noRo_own noRo_nil), hl, A.length, fl, rfl, by simp⟩
theorem getD_in {l : List Int} {a b : Int} (h : ∀ x ∈ l, a ≤ x ∧ x ≤ b) {k : Nat} (hk : k < l.length) : a ≤ l.getD k 0 ∧ l.getD k 0 ≤ b := by
  rw [List.getD_eq_getElem?_getD, List.getElem?_eq_getElem hk]; exact h _ (List.getElem_mem hk)
theorem sumTo_s {l : List Int} {k : Nat} (h : k < l.length) : sumTo l (k + 1) = sumTo l k + l.getD k 0 := by
  rw [sumTo_succ (List.getElem?_eq_getElem h), List.getD_eq_getElem?_getD, List.getElem?_eq_getElem h]; rfl
theorem sumTo_in {l : List Int} {a b : Int} (h : ∀ x ∈ l, a ≤ x ∧ x ≤ b) : ∀ k : Nat, k ≤ l.length → a * k ≤ sumTo l k ∧ sumTo l k ≤ b * k := by
  intro k
  induction k with
  | zero => intro _; simp [sumTo]
  | succ k ih =>
    intro hk
    have := ih (by omega)
    have h2 := getD_in h (k := k) (by omega)
    rw [sumTo_s (by omega), Int.natCast_add, Int.mul_add, Int.mul_add]
    omega

theorem l2Sum_rc (m : Mem) (v : Value) (l : List Int) (h : IntsA m v l) (hb : ∀ k : Nat, k ≤ l.length → -4611686018427387904 ≤ sumTo l k ∧ sumTo l k ≤ 4611686018427387904) :
    RC Try.prog 38 [v] m fun r new => r = .int .i64 (sumTo l l.length) ∧ new = [] := by
  refine rc_of_run mixed ok_spec_l2Sum (by simp) (go_start _ _ _ ?_)
  obtain ⟨e1, e2, e3, e4, -⟩ := h.ro
  simp (config := {implicitDefEqProofs := false, maxDischargeDepth := 20}) (disch := first | omega | (simp only [lenE]; done) | (simp only [lenE]; omega) | rfl | (simp only [lenE, markR_len]; done) | (simp only [lenE, markR_len]; omega)) only [runE, mapE, listE, initT_5, initT_6, initT_7, initT_8, resV, oneV, binA, unA, reduceCtorEq, Nat.reduceEqDiff, Nat.reduceAdd, Nat.reduceLT, Nat.reduceLeDiff, Nat.reduceMul, Nat.reduceSub, ↓reduceIte, decide_true, decide_false, Bool.true_eq_false, Bool.false_eq_true, Bool.not_true, Bool.not_false, if_true, if_false, and_true, true_and, memE, celE, w64, Nat.zero_add, Nat.add_zero, Nat.mul_one, putL, and_self, ldn, c_spec_l2Sum, r_spec_l2Sum]
  refine loop_inv mixed (fun s => ∃ k : Nat, k ≤ l.length ∧ s.t 0 = v ∧ s.t 3 = .int .i64 (sumTo l k) ∧ s.t 4 = .int .i64 k ∧ s.m = roM m) (fun s => l.length - (intOf (s.t 4)).toNat) ⟨0, by omega, rfl, rfl, rfl, rfl⟩ ?_
  rintro s ⟨k, hk, t0, t3, t4, tm⟩
  by_cases hlt : k < l.length
  · have hlt' : (k : Int) < l.length := by omega
    have b1 := hb (k + 1) (by omega)
    have b2 := sumTo_s hlt
    rw [b2] at b1
    simp (config := {implicitDefEqProofs := false, maxDischargeDepth := 20}) (disch := first | omega | (simp only [lenE]; done) | (simp only [lenE]; omega) | rfl | (simp only [lenE, markR_len]; done) | (simp only [lenE, markR_len]; omega)) only [runE, mapE, listE, initT_5, initT_6, initT_7, initT_8, resV, oneV, binA, unA, reduceCtorEq, Nat.reduceEqDiff, Nat.reduceAdd, Nat.reduceLT, Nat.reduceLeDiff, Nat.reduceMul, Nat.reduceSub, ↓reduceIte, decide_true, decide_false, Bool.true_eq_false, Bool.false_eq_true, Bool.not_true, Bool.not_false, if_true, if_false, and_true, true_and, memE, celE, w64, Nat.zero_add, Nat.add_zero, Nat.mul_one, putL, and_self, ldn, t0, t3, t4, tm, e1, e3 k hlt, e4 k hlt, hlt']
    refine ⟨⟨k + 1, by omega, by simp [b2]⟩, ?_⟩
    simp [intOf]; omega
  · have hlt' : ¬ ((k : Int) < l.length) := by omega
    have e : k = l.length := by omega
    simp (config := {implicitDefEqProofs := false, maxDischargeDepth := 20}) (disch := first | omega | (simp only [lenE]; done) | (simp only [lenE]; omega) | rfl | (simp only [lenE, markR_len]; done) | (simp only [lenE, markR_len]; omega)) only [runE, mapE, listE, initT_5, initT_6, initT_7, initT_8, resV, oneV, binA, unA, reduceCtorEq, Nat.reduceEqDiff, Nat.reduceAdd, Nat.reduceLT, Nat.reduceLeDiff, Nat.reduceMul, Nat.reduceSub, ↓reduceIte, decide_true, decide_false, Bool.true_eq_false, Bool.false_eq_true, Bool.not_true, Bool.not_false, if_true, if_false, and_true, true_and, memE, celE, w64, Nat.zero_add, Nat.add_zero, Nat.mul_one, putL, and_self, ldn, t0, t3, t4, tm, e1, hlt']
    exact newQ_nil ⟨by rw [e], rfl⟩

theorem sumOf_rc (m : Mem) (v : Value) (l : List Int) (h : IntsA m v l) (hb : ∀ k : Nat, k ≤ l.length → -4611686018427387904 ≤ sumTo l k ∧ sumTo l k ≤ 4611686018427387904) :
    RC Try.prog 24 [v] m fun r new => r = .int .i64 (sumTo l l.length) ∧ new = [] := by
  refine rc_of_run mixed ok_impl_sumOf (by simp) (go_start _ _ _ ?_)
  obtain ⟨e1, e2, e3, e4, -⟩ := h.ro
  simp (config := {implicitDefEqProofs := false, maxDischargeDepth := 20}) (disch := first | omega | (simp only [lenE]; done) | (simp only [lenE]; omega) | rfl | (simp only [lenE, markR_len]; done) | (simp only [lenE, markR_len]; omega)) only [runE, mapE, listE, initT_5, initT_6, initT_7, initT_8, resV, oneV, binA, unA, reduceCtorEq, Nat.reduceEqDiff, Nat.reduceAdd, Nat.reduceLT, Nat.reduceLeDiff, Nat.reduceMul, Nat.reduceSub, ↓reduceIte, decide_true, decide_false, Bool.true_eq_false, Bool.false_eq_true, Bool.not_true, Bool.not_false, if_true, if_false, and_true, true_and, memE, celE, w64, Nat.zero_add, Nat.add_zero, Nat.mul_one, putL, and_self, ldn, c_impl_sumOf, r_impl_sumOf, e1]
  refine loop_inv mixed (fun s => ∃ k : Nat, k ≤ l.length ∧ s.t 6 = v ∧ s.t 7 = .int .i64 l.length ∧ s.t 3 = .int .i64 (sumTo l k) ∧ s.t 8 = .int .i64 k ∧ s.m = roM m) (fun s => l.length - (intOf (s.t 8)).toNat) ⟨0, by omega, rfl, rfl, rfl, rfl, rfl⟩ ?_
  rintro s ⟨k, hk, t6, t7, t3, t8, tm⟩
  by_cases hlt : k < l.length
  · have hlt' : (k : Int) < l.length := by omega
    have b1 := hb (k + 1) (by omega)
    have b2 := sumTo_s hlt
    rw [b2] at b1
    simp (config := {implicitDefEqProofs := false, maxDischargeDepth := 20}) (disch := first | omega | (simp only [lenE]; done) | (simp only [lenE]; omega) | rfl | (simp only [lenE, markR_len]; done) | (simp only [lenE, markR_len]; omega)) only [runE, mapE, listE, initT_5, initT_6, initT_7, initT_8, resV, oneV, binA, unA, reduceCtorEq, Nat.reduceEqDiff, Nat.reduceAdd, Nat.reduceLT, Nat.reduceLeDiff, Nat.reduceMul, Nat.reduceSub, ↓reduceIte, decide_true, decide_false, Bool.true_eq_false, Bool.false_eq_true, Bool.not_true, Bool.not_false, if_true, if_false, and_true, true_and, memE, celE, w64, Nat.zero_add, Nat.add_zero, Nat.mul_one, putL, and_self, ldn, t6, t7, t3, t8, tm, e1, e3 k hlt, e4 k hlt, hlt']
    refine ⟨⟨k + 1, by omega, by simp [b2]⟩, ?_⟩
    simp [intOf]; omega
  · have hlt' : ¬ ((k : Int) < l.length) := by omega
    have e : k = l.length := by omega
    simp (config := {implicitDefEqProofs := false, maxDischargeDepth := 20}) (disch := first | omega | (simp only [lenE]; done) | (simp only [lenE]; omega) | rfl | (simp only [lenE, markR_len]; done) | (simp only [lenE, markR_len]; omega)) only [runE, mapE, listE, initT_5, initT_6, initT_7, initT_8, resV, oneV, binA, unA, reduceCtorEq, Nat.reduceEqDiff, Nat.reduceAdd, Nat.reduceLT, Nat.reduceLeDiff, Nat.reduceMul, Nat.reduceSub, ↓reduceIte, decide_true, decide_false, Bool.true_eq_false, Bool.false_eq_true, Bool.not_true, Bool.not_false, if_true, if_false, and_true, true_and, memE, celE, w64, Nat.zero_add, Nat.add_zero, Nat.mul_one, putL, and_self, ldn, t6, t7, t3, t8, tm, e1, hlt']
    exact newQ_nil ⟨by rw [e], rfl⟩

def nowK (plan need : List Int) (k : Nat) : Int := sumTo plan k - sumTo need k
theorem nowK_s {plan need : List Int} {k : Nat} (h : k < plan.length) (h' : k < need.length) : nowK plan need (k + 1) = nowK plan need k + plan.getD k 0 - need.getD k 0 := by
  unfold nowK; rw [sumTo_s h, sumTo_s h']; omega
theorem stk_now (plan need : List Int) (k : Nat) : stk plan need k = nowK plan need (k + 1) := rfl
theorem stocksL_len (plan need : List Int) : (stocksL plan need).length = plan.length := by simp [stocksL, stocksTo_len]
theorem stocksL_at {plan need : List Int} {t : Nat} (h : t < plan.length) : (stocksL plan need).getD t 0 = stk plan need t := by
  rw [List.getD_eq_getElem?_getD, stocksL, stocksTo_at h]; rfl
theorem two_iff {k : Cs} {plan : List Int} : two k plan = true ↔ Good k ∧ Plan k plan := by
  unfold two; rw [Bool.and_eq_true, good_iff, planB_iff]
theorem two_bounds {k : Cs} {plan : List Int} (h : two k plan = true) : Good k ∧ plan.length = k.need.length ∧ (∀ x ∈ plan, 0 ≤ x ∧ x ≤ 160) := by
  obtain ⟨h1, h2, h3, _⟩ := two_iff.1 h
  exact ⟨h1, h2, h3⟩
def stocksA (k : Cs) (plan : List Int) : List Int := if two k plan then stocksL plan k.need else []

def lateB (k : Cs) (plan : List Int) : Bool := k.good && (Go.Proofs.Ytibkaclkaigflaa.rowB plan k.need.length 160 && decide (nowK plan k.need plan.length = 0))
theorem late_iff {k : Cs} {plan : List Int} : lateB k plan = true ↔ Good k ∧ plan.length = k.need.length ∧ (∀ x ∈ plan, 0 ≤ x ∧ x ≤ 160) ∧ nowK plan k.need plan.length = 0 := by
  unfold lateB
  rw [Bool.and_eq_true, Bool.and_eq_true, good_iff, rowB_iff, decide_eq_true_eq]
  exact ⟨fun ⟨h1, ⟨h2, h3⟩, h4⟩ => ⟨h1, h3, h2, h4⟩, fun ⟨h1, h3, h2, h4⟩ => ⟨h1, ⟨h2, h3⟩, h4⟩⟩
theorem late_two {k : Cs} {plan : List Int} : two k plan = (lateB k plan && !(stocksL plan k.need).any (fun x => decide (x < 0))) := by
  have e : decide (sumTo plan plan.length = sumTo k.need plan.length) = decide (nowK plan k.need plan.length = 0) := by
    unfold nowK; congr 1; apply propext; omega
  have e2 : (stocksL plan k.need).all (fun x => decide (0 ≤ x)) = !(stocksL plan k.need).any (fun x => decide (x < 0)) := by
    rw [List.any_eq_not_all_not, Bool.not_not]
    congr 1
    funext x
    by_cases hx : x < 0
    · simp [hx]
    · simp [hx]; omega
  unfold two planB lateB
  rw [e, e2]
  cases k.good <;> cases Go.Proofs.Ytibkaclkaigflaa.rowB plan k.need.length 160 <;> cases decide (nowK plan k.need plan.length = 0) <;> simp
theorem late_le {k : Cs} {plan : List Int} (h : lateB k plan = true) : ∀ x ∈ plan, x ≤ sumTo k.need k.need.length := by
  obtain ⟨h0, h1, h2, h4⟩ := late_iff.1 h
  intro x hx
  obtain ⟨j, hj⟩ := List.mem_iff_getElem?.1 hx
  have hj2 : j < plan.length := (List.getElem?_eq_some_iff.1 hj).1
  have e := sumTo_succ hj
  have m1 := sumTo_mono (fun x hx => (h2 x hx).1) (j := j + 1) (k := plan.length) (by omega)
  have m0 := (sumTo_bound (by omega) h2 j).1
  unfold nowK at h4
  rw [h1] at h4 m1
  omega

def balFB (need am : List Int) : Bool := Go.Proofs.Ytibkaclkaigflaa.rowB am need.length (sumTo need need.length) && decide (nowK am need am.length = 0)
def balFA (need am : List Int) : List Int := if balFB need am then stocksL am need else []
theorem late_bal {k : Cs} {plan : List Int} : lateB k plan = (k.good && balFB k.need plan) := by
  cases hg : k.good with
  | false => simp [lateB, hg]
  | true =>
    have gd := good_iff.1 hg
    have h8 := gd.n8
    have hS := sumTo_in gd.need k.need.length (Nat.le_refl _)
    rw [Bool.true_and]
    cases hq : lateB k plan with
    | true =>
      have hle := late_le hq
      obtain ⟨_, h1, h2, h4⟩ := late_iff.1 hq
      symm
      unfold balFB
      rw [Bool.and_eq_true]
      exact ⟨rowB_iff.2 ⟨fun x hx => ⟨(h2 x hx).1, hle x hx⟩, h1⟩, decide_eq_true h4⟩
    | false =>
      symm
      cases hb : balFB k.need plan with
      | false => rfl
      | true =>
        unfold balFB at hb
        rw [Bool.and_eq_true, rowB_iff, decide_eq_true_eq] at hb
        rw [late_iff.2 ⟨gd, hb.1.2, fun x hx => by have := hb.1.1 x hx; omega, hb.2⟩] at hq
        cases hq
theorem balF_len {need am : List Int} (h : balFB need am = true) : am.length = need.length := by
  unfold balFB at h
  rw [Bool.and_eq_true, rowB_iff] at h
  exact h.1.2
theorem balancesFor_rc (m : Mem) (v u : Value) (need am : List Int) (h : IntsA m v need) (h' : IntsA m u am) (hn : ∀ x ∈ need, 0 ≤ x ∧ x ≤ 160) (h8 : need.length ≤ 8) :
    RC Try.prog 59 [v, u] m (AnsL m (balFA need am) (balFB need am)) := by
  refine rc_of_run mixed ok_impl_balancesFor (by simp) (go_start _ _ _ ?_)
  have h1 := h.ro
  have hu := h'.ro
  have hS := sumTo_in hn need.length (Nat.le_refl _)
  simp (config := {implicitDefEqProofs := false, maxDischargeDepth := 20}) (disch := first | omega | (simp only [lenE]; done) | (simp only [lenE]; omega) | rfl | (simp only [lenE, markR_len]; done) | (simp only [lenE, markR_len]; omega)) only [runE, mapE, listE, initT_5, initT_6, initT_7, initT_8, resV, oneV, binA, unA, reduceCtorEq, Nat.reduceEqDiff, Nat.reduceAdd, Nat.reduceLT, Nat.reduceLeDiff, Nat.reduceMul, Nat.reduceSub, ↓reduceIte, decide_true, decide_false, Bool.true_eq_false, Bool.false_eq_true, Bool.not_true, Bool.not_false, if_true, if_false, and_true, true_and, memE, celE, w64, Nat.zero_add, Nat.add_zero, Nat.mul_one, putL, and_self, ldn, c_impl_balancesFor, r_impl_balancesFor, h1.len]
  refine callH_rc (sumOf_rc _ v need h1 fun j hj => by have := sumTo_in hn j hj; omega) ?_
  rintro r new2 ⟨rfl, rfl⟩
  simp (config := {implicitDefEqProofs := false, maxDischargeDepth := 20}) (disch := first | omega | (simp only [lenE]; done) | (simp only [lenE]; omega) | rfl | (simp only [lenE, markR_len]; done) | (simp only [lenE, markR_len]; omega)) only [runE, mapE, listE, initT_5, initT_6, initT_7, initT_8, resV, oneV, binA, unA, reduceCtorEq, Nat.reduceEqDiff, Nat.reduceAdd, Nat.reduceLT, Nat.reduceLeDiff, Nat.reduceMul, Nat.reduceSub, ↓reduceIte, decide_true, decide_false, Bool.true_eq_false, Bool.false_eq_true, Bool.not_true, Bool.not_false, if_true, if_false, and_true, true_and, memE, celE, w64, Nat.zero_add, Nat.add_zero, Nat.mul_one, putL, and_self, ldn]
  refine callH_rc (isRow_rc _ u am need.length (sumTo need need.length) hu) ?_
  rintro r new3 ⟨rfl, nr3⟩
  unfold balFA
  have fin : ∀ (A : Mem) (id : Nat), NoRo A → balFB need am = false → id = m.length + A.length → newQ m (AnsL m (if balFB need am = true then stocksL am need else []) (balFB need am)) (.tuple #[.slice (some ⟨id, 0, none⟩) 0 1, .bool false]) (roM m ++ A ++ [⟨.own, 3, ([] : List Int).map (Value.int .i64)⟩]) := by
    intro A id hA h2 hid
    rw [h2]
    exact ansL_end hA hid rfl (by simp)
  cases hr : Go.Proofs.Ytibkaclkaigflaa.rowB am need.length (sumTo need need.length) with
  | false =>
    simp (config := {implicitDefEqProofs := false, maxDischargeDepth := 20}) (disch := first | omega | (simp only [lenE]; done) | (simp only [lenE]; omega) | rfl | (simp only [lenE, markR_len]; done) | (simp only [lenE, markR_len]; omega)) only [runE, mapE, listE, initT_5, initT_6, initT_7, initT_8, resV, oneV, binA, unA, reduceCtorEq, Nat.reduceEqDiff, Nat.reduceAdd, Nat.reduceLT, Nat.reduceLeDiff, Nat.reduceMul, Nat.reduceSub, ↓reduceIte, decide_true, decide_false, Bool.true_eq_false, Bool.false_eq_true, Bool.not_true, Bool.not_false, if_true, if_false, and_true, true_and, memE, celE, w64, Nat.zero_add, Nat.add_zero, Nat.mul_one, putL, and_self, ldn, bsl_none]
    exact fin _ _ (by (repeat (first | exact noRo_nil | assumption | apply noRo_own | apply noRo_dead | apply noRo_app))) (by unfold balFB; rw [hr]; rfl) (by simp)
  | true =>
    obtain ⟨hp, hl⟩ := rowB_iff.1 hr
    have hp' : ∀ x ∈ am, 0 ≤ x ∧ x ≤ 1280 := fun x hx => by have := hp x hx; omega
    simp (config := {implicitDefEqProofs := false, maxDischargeDepth := 20}) (disch := first | omega | (simp only [lenE]; done) | (simp only [lenE]; omega) | rfl | (simp only [lenE, markR_len]; done) | (simp only [lenE, markR_len]; omega)) only [runE, mapE, listE, initT_5, initT_6, initT_7, initT_8, resV, oneV, binA, unA, reduceCtorEq, Nat.reduceEqDiff, Nat.reduceAdd, Nat.reduceLT, Nat.reduceLeDiff, Nat.reduceMul, Nat.reduceSub, ↓reduceIte, decide_true, decide_false, Bool.true_eq_false, Bool.false_eq_true, Bool.not_true, Bool.not_false, if_true, if_false, and_true, true_and, memE, celE, w64, Nat.zero_add, Nat.add_zero, Nat.mul_one, putL, and_self, ldn, bsl_none, hu.len]
    refine loop_inv mixed (fun s => ∃ (t : Nat) (J : Mem), t ≤ am.length ∧ NoRo J ∧ s.t 0 = v ∧ s.t 7 = .slice (some ⟨m.length + J.length, 0, none⟩) (stocksTo am need t).length 1 ∧ s.t 6 = .int .i64 (nowK am need t) ∧ s.t 19 = u ∧ s.t 20 = .int .i64 am.length ∧ s.t 21 = .int .i64 t ∧
      s.m = roM m ++ J ++ [⟨.own, 3, (stocksTo am need t).map (Value.int .i64)⟩]) (fun s => am.length - (intOf (s.t 21)).toNat) ⟨0, new3, by omega, nr3, rfl, by simp only [put_t, put_t', put_m, putT_t, putT_t', putT_m, init_t, init_m, initT_0, initT_1, initT_2, initT_3, initT_4, initT_5, initT_6, initT_7, initT_8, Nat.reduceEqDiff, ↓reduceIte]; simp [stocksTo_zero], rfl, rfl, rfl, rfl, by simp only [put_t, put_t', put_m, putT_t, putT_t', putT_m, init_t, init_m, initT_0, initT_1, initT_2, initT_3, initT_4, initT_5, initT_6, initT_7, initT_8, Nat.reduceEqDiff, ↓reduceIte]; simp [stocksTo_zero]⟩ ?_
    rintro s ⟨t, J, hk, nr, t0, t7, t6, t19, t20, t21, tm⟩
    by_cases hlt : t < am.length
    · have hlt' : (t : Int) < am.length := by omega
      have b1 : -1280 ≤ nowK am need t ∧ nowK am need t ≤ 10240 := by
        have c1 := sumTo_in hp' t (by omega)
        have c2 := sumTo_in hn t (by omega)
        unfold nowK; omega
      have b2 := getD_in hp' hlt
      have b3 := getD_in hn (k := t) (by omega)
      have b4 := nowK_s (plan := am) (need := need) hlt (by omega)
      have b4' : nowK am need (t + 1) = nowK am need t + (am.getD t 0 - need.getD t 0) := by omega
      have b5 := stocksTo_len am need t
      simp (config := {implicitDefEqProofs := false, maxDischargeDepth := 20}) (disch := first | omega | (simp only [lenE]; done) | (simp only [lenE]; omega) | rfl | (simp only [lenE, markR_len]; done) | (simp only [lenE, markR_len]; omega)) only [runE, mapE, listE, initT_5, initT_6, initT_7, initT_8, resV, oneV, binA, unA, reduceCtorEq, Nat.reduceEqDiff, Nat.reduceAdd, Nat.reduceLT, Nat.reduceLeDiff, Nat.reduceMul, Nat.reduceSub, ↓reduceIte, decide_true, decide_false, Bool.true_eq_false, Bool.false_eq_true, Bool.not_true, Bool.not_false, if_true, if_false, and_true, true_and, memE, celE, w64, Nat.zero_add, Nat.add_zero, Nat.mul_one, putL, and_self, ldn, t0, t7, t6, t19, t20, t21, tm, hu.at_ t hlt, ((hu.ext J).ext [_]).ld t hlt, h1.at_ t (by omega), ((h1.ext J).ext [_]).ld t (by omega), hlt', bsl_one, app_one]
      refine ⟨⟨t + 1, J ++ [deadB, ⟨.own, 3, [.int .i64 (nowK am need t + (am.getD t 0 - need.getD t 0))]⟩], by omega, noRo_app nr (noRo_dead (noRo_own noRo_nil)), by simp [stocksTo_len], by rw [b4'], by simp, ?_⟩, ?_⟩
      · rw [stocksTo_succ, stk_now, b4']; simp
      · simp [intOf]; omega
    · have hlt' : ¬ ((t : Int) < am.length) := by omega
      have e : t = am.length := by omega
      subst e
      by_cases h0 : nowK am need am.length = 0
      · have h0' : ((nowK am need am.length) != 0) = false := by simp [h0]
        simp (config := {implicitDefEqProofs := false, maxDischargeDepth := 20}) (disch := first | omega | (simp only [lenE]; done) | (simp only [lenE]; omega) | rfl | (simp only [lenE, markR_len]; done) | (simp only [lenE, markR_len]; omega)) only [runE, mapE, listE, initT_5, initT_6, initT_7, initT_8, resV, oneV, binA, unA, reduceCtorEq, Nat.reduceEqDiff, Nat.reduceAdd, Nat.reduceLT, Nat.reduceLeDiff, Nat.reduceMul, Nat.reduceSub, ↓reduceIte, decide_true, decide_false, Bool.true_eq_false, Bool.false_eq_true, Bool.not_true, Bool.not_false, if_true, if_false, and_true, true_and, memE, celE, w64, Nat.zero_add, Nat.add_zero, Nat.mul_one, putL, and_self, ldn, t0, t7, t6, t19, t20, t21, tm, hlt', h0']
        rw [show balFB need am = true by unfold balFB; rw [hr]; simp [h0]]
        exact ansL_end nr (by simp) rfl (by simp [stocksL, stocksTo_len]; omega)
      · have h0' : ((nowK am need am.length) != 0) = true := by simp [h0]
        simp (config := {implicitDefEqProofs := false, maxDischargeDepth := 20}) (disch := first | omega | (simp only [lenE]; done) | (simp only [lenE]; omega) | rfl | (simp only [lenE, markR_len]; done) | (simp only [lenE, markR_len]; omega)) only [runE, mapE, listE, initT_5, initT_6, initT_7, initT_8, resV, oneV, binA, unA, reduceCtorEq, Nat.reduceEqDiff, Nat.reduceAdd, Nat.reduceLT, Nat.reduceLeDiff, Nat.reduceMul, Nat.reduceSub, ↓reduceIte, decide_true, decide_false, Bool.true_eq_false, Bool.false_eq_true, Bool.not_true, Bool.not_false, if_true, if_false, and_true, true_and, memE, celE, w64, Nat.zero_add, Nat.add_zero, Nat.mul_one, putL, and_self, ldn, t0, t7, t6, t19, t20, t21, tm, hlt', h0', bsl_none]
        rw [List.append_assoc (roM m)]
        exact fin _ _ (by (repeat (first | exact noRo_nil | assumption | apply noRo_own | apply noRo_dead | apply noRo_app))) (by unfold balFB; rw [hr]; simp [h0]) (by simp; omega)

theorem test_owed (m : Mem) : TestA m (.func (.func 60) #[] #[]) (fun x => decide (x < 0)) := by
  refine ⟨_, _, rfl, fun x m' hm => ?_⟩
  refine rc_of_run mixed ok_impl_isOwed (by simp) (go_start _ _ _ ?_)
  simp (config := {implicitDefEqProofs := false, maxDischargeDepth := 20}) (disch := first | omega | (simp only [lenE]; done) | (simp only [lenE]; omega) | rfl | (simp only [lenE, markR_len]; done) | (simp only [lenE, markR_len]; omega)) only [runE, mapE, listE, initT_5, initT_6, initT_7, initT_8, resV, oneV, binA, unA, reduceCtorEq, Nat.reduceEqDiff, Nat.reduceAdd, Nat.reduceLT, Nat.reduceLeDiff, Nat.reduceMul, Nat.reduceSub, ↓reduceIte, decide_true, decide_false, Bool.true_eq_false, Bool.false_eq_true, Bool.not_true, Bool.not_false, if_true, if_false, and_true, true_and, memE, celE, w64, Nat.zero_add, Nat.add_zero, Nat.mul_one, putL, and_self, ldn, c_impl_isOwed, r_impl_isOwed]
  exact newQ_nil ⟨rfl, rfl⟩
theorem AnsL.row0 {m new : Mem} {l : List Int} {ok : Bool} {r : Value} (h : AnsL m l ok r new) : ∃ id fl, r = .tuple #[.slice (some ⟨id, 0, none⟩) l.length fl, .bool ok] ∧ m.length ≤ id ∧ OwnR (m ++ new) id l ∧ l.length ≤ 1048576 ∧ NoRo new := by
  obtain ⟨h1, h2, i, fl, rfl, h3⟩ := h
  exact ⟨_, fl, rfl, by omega, OwnR.new h3 rfl, h2, h1⟩
theorem ext20 (a b : Value) : extA 0 (.tuple #[a, b]) = some a := rfl
theorem ext21 (a b : Value) : extA 1 (.tuple #[a, b]) = some b := rfl

def stkFB (need am : List Int) : Bool := balFB need am && !(stocksL am need).any (fun x => decide (x < 0))
def stkFA (need am : List Int) : List Int := if stkFB need am then stocksL am need else []
theorem stocksFor_rc (m : Mem) (v u : Value) (need am : List Int) (h : IntsA m v need) (h' : IntsA m u am) (hn : ∀ x ∈ need, 0 ≤ x ∧ x ≤ 160) (h8 : need.length ≤ 8) :
    RC Try.prog 49 [v, u] m (AnsL m (stkFA need am) (stkFB need am)) := by
  refine rc_of_run mixed ok_impl_stocksFor (by simp) (go_start _ _ _ ?_)
  simp (config := {implicitDefEqProofs := false, maxDischargeDepth := 20}) (disch := first | omega | (simp only [lenE]; done) | (simp only [lenE]; omega) | rfl | (simp only [lenE, markR_len]; done) | (simp only [lenE, markR_len]; omega)) only [runE, mapE, listE, initT_5, initT_6, initT_7, initT_8, resV, oneV, binA, unA, reduceCtorEq, Nat.reduceEqDiff, Nat.reduceAdd, Nat.reduceLT, Nat.reduceLeDiff, Nat.reduceMul, Nat.reduceSub, ↓reduceIte, decide_true, decide_false, Bool.true_eq_false, Bool.false_eq_true, Bool.not_true, Bool.not_false, if_true, if_false, and_true, true_and, memE, celE, w64, Nat.zero_add, Nat.add_zero, Nat.mul_one, putL, and_self, ldn, c_impl_stocksFor, r_impl_stocksFor]
  refine callH_rc (balancesFor_rc _ v u need am h.ro h'.ro hn h8) ?_
  intro r new hA
  obtain ⟨id, fl, rfl, hge, hown, hle, nr⟩ := hA.row0
  rw [roM_len] at hge
  unfold stkFA stkFB
  cases hb : balFB need am with
  | false =>
    simp (config := {implicitDefEqProofs := false, maxDischargeDepth := 20}) (disch := first | omega | (simp only [lenE]; done) | (simp only [lenE]; omega) | rfl | (simp only [lenE, markR_len]; done) | (simp only [lenE, markR_len]; omega)) only [runE, mapE, listE, initT_5, initT_6, initT_7, initT_8, resV, oneV, binA, unA, reduceCtorEq, Nat.reduceEqDiff, Nat.reduceAdd, Nat.reduceLT, Nat.reduceLeDiff, Nat.reduceMul, Nat.reduceSub, ↓reduceIte, decide_true, decide_false, Bool.true_eq_false, Bool.false_eq_true, Bool.not_true, Bool.not_false, if_true, if_false, and_true, true_and, memE, celE, w64, Nat.zero_add, Nat.add_zero, Nat.mul_one, putL, and_self, ldn, ext20, ext21, bsl_none]
    exact ansL_end (by (repeat (first | exact noRo_nil | assumption | apply noRo_own | apply noRo_dead | apply noRo_app))) (by simp) rfl (by simp)
  | true =>
    have eb : balFA need am = stocksL am need := by unfold balFA; rw [hb]; rfl
    rw [eb] at hown hle ⊢
    have hll := stocksL_len am need
    have hl := balF_len hb
    simp (config := {implicitDefEqProofs := false, maxDischargeDepth := 20}) (disch := first | omega | (simp only [lenE]; done) | (simp only [lenE]; omega) | rfl | (simp only [lenE, markR_len]; done) | (simp only [lenE, markR_len]; omega)) only [runE, mapE, listE, initT_5, initT_6, initT_7, initT_8, resV, oneV, binA, unA, reduceCtorEq, Nat.reduceEqDiff, Nat.reduceAdd, Nat.reduceLT, Nat.reduceLeDiff, Nat.reduceMul, Nat.reduceSub, ↓reduceIte, decide_true, decide_false, Bool.true_eq_false, Bool.false_eq_true, Bool.not_true, Bool.not_false, if_true, if_false, and_true, true_and, memE, celE, w64, Nat.zero_add, Nat.add_zero, Nat.mul_one, putL, and_self, ldn, ext20, ext21]
    refine callH_rc (containsFunc_rc _ _ _ _ (fun x => decide (x < 0)) (hown.ints (by omega) fl) (test_owed _)) ?_
    rintro r new2 ⟨rfl, rfl⟩
    rw [List.append_nil]
    cases hn : (stocksL am need).any (fun x => decide (x < 0)) with
    | true =>
      simp (config := {implicitDefEqProofs := false, maxDischargeDepth := 20}) (disch := first | omega | (simp only [lenE]; done) | (simp only [lenE]; omega) | rfl | (simp only [lenE, markR_len]; done) | (simp only [lenE, markR_len]; omega)) only [runE, mapE, listE, initT_5, initT_6, initT_7, initT_8, resV, oneV, binA, unA, reduceCtorEq, Nat.reduceEqDiff, Nat.reduceAdd, Nat.reduceLT, Nat.reduceLeDiff, Nat.reduceMul, Nat.reduceSub, ↓reduceIte, decide_true, decide_false, Bool.true_eq_false, Bool.false_eq_true, Bool.not_true, Bool.not_false, if_true, if_false, and_true, true_and, memE, celE, w64, Nat.zero_add, Nat.add_zero, Nat.mul_one, putL, and_self, ldn, bsl_none]
      exact ansL_end (by (repeat (first | exact noRo_nil | assumption | apply noRo_own | apply noRo_dead | apply noRo_app))) (by simp) rfl (by simp)
    | false =>
      simp (config := {implicitDefEqProofs := false, maxDischargeDepth := 20}) (disch := first | omega | (simp only [lenE]; done) | (simp only [lenE]; omega) | rfl | (simp only [lenE, markR_len]; done) | (simp only [lenE, markR_len]; omega)) only [runE, mapE, listE, initT_5, initT_6, initT_7, initT_8, resV, oneV, binA, unA, reduceCtorEq, Nat.reduceEqDiff, Nat.reduceAdd, Nat.reduceLT, Nat.reduceLeDiff, Nat.reduceMul, Nat.reduceSub, ↓reduceIte, decide_true, decide_false, Bool.true_eq_false, Bool.false_eq_true, Bool.not_true, Bool.not_false, if_true, if_false, and_true, true_and, memE, celE, w64, Nat.zero_add, Nat.add_zero, Nat.mul_one, putL, and_self, ldn]
      rw [if_pos (by rfl)]
      refine ⟨new, rfl, nr, nr, hle, id - m.length, fl, by rw [Nat.add_sub_cancel' (by omega)]; rfl, ?_⟩
      unfold OwnR at hown
      rw [List.getElem?_append_right (by rw [roM_len]; omega), roM_len] at hown
      exact hown
theorem AnsL.pass {m A new : Mem} {l : List Int} {ok : Bool} {r : Value} (hA : NoRo A) (h : AnsL (roM m ++ A) l ok r new) : newQ m (AnsL m l ok) r (roM m ++ A ++ new) := by
  obtain ⟨h1, h2, i, fl, rfl, h3⟩ := h
  refine ⟨A ++ new, by rw [List.append_assoc], noRo_app hA h1, noRo_app hA h1, h2, A.length + i, fl, by simp [roM_len, Nat.add_assoc], ?_⟩
  rw [List.getElem?_append_right (by omega)]; simpa using h3
theorem stkA_for {k : Cs} {plan : List Int} (hg : k.good = true) : stkFA k.need plan = stocksA k plan ∧ stkFB k.need plan = two k plan := by
  have e : stkFB k.need plan = two k plan := by unfold stkFB; rw [late_two, late_bal, hg, Bool.true_and]
  unfold stkFA stocksA
  rw [e]
  exact ⟨rfl, rfl⟩
theorem implStocksOf_rc (m : Mem) (v u : Value) (k : Cs) (plan : List Int) (h : CaseA m v k) (h' : IntsA m u plan) :
    RC Try.prog 40 [v, u] m (AnsL m (stocksA k plan) (two k plan)) := by
  refine rc_of_run mixed ok_impl_StocksOf (by simp) (go_start _ _ _ ?_)
  obtain ⟨v1, v2, v3, v4, rfl, h1, h2, h3, h4⟩ := h.ro.ok
  have hu := h'.ro
  simp (config := {implicitDefEqProofs := false, maxDischargeDepth := 20}) (disch := first | omega | (simp only [lenE]; done) | (simp only [lenE]; omega) | rfl | (simp only [lenE, markR_len]; done) | (simp only [lenE, markR_len]; omega)) only [runE, mapE, listE, initT_5, initT_6, initT_7, initT_8, resV, oneV, binA, unA, reduceCtorEq, Nat.reduceEqDiff, Nat.reduceAdd, Nat.reduceLT, Nat.reduceLeDiff, Nat.reduceMul, Nat.reduceSub, ↓reduceIte, decide_true, decide_false, Bool.true_eq_false, Bool.false_eq_true, Bool.not_true, Bool.not_false, if_true, if_false, and_true, true_and, memE, celE, w64, Nat.zero_add, Nat.add_zero, Nat.mul_one, putL, and_self, ldn, c_impl_StocksOf, r_impl_StocksOf]
  refine callH_rc (implIsCase_rc _ _ k ⟨_, _, _, _, rfl, h1.ext _, h2.ext _, h3.ext _, h4.ext _⟩) ?_
  rintro r new ⟨rfl, nr1⟩
  cases hg : k.good with
  | false =>
    simp (config := {implicitDefEqProofs := false, maxDischargeDepth := 20}) (disch := first | omega | (simp only [lenE]; done) | (simp only [lenE]; omega) | rfl | (simp only [lenE, markR_len]; done) | (simp only [lenE, markR_len]; omega)) only [runE, mapE, listE, initT_5, initT_6, initT_7, initT_8, resV, oneV, binA, unA, reduceCtorEq, Nat.reduceEqDiff, Nat.reduceAdd, Nat.reduceLT, Nat.reduceLeDiff, Nat.reduceMul, Nat.reduceSub, ↓reduceIte, decide_true, decide_false, Bool.true_eq_false, Bool.false_eq_true, Bool.not_true, Bool.not_false, if_true, if_false, and_true, true_and, memE, celE, w64, Nat.zero_add, Nat.add_zero, Nat.mul_one, putL, and_self, ldn, bsl_none]
    have e : two k plan = false := by unfold two; rw [hg]; rfl
    rw [List.append_assoc (roM m), show stocksA k plan = [] by unfold stocksA; rw [e]; rfl, e]
    exact ansL_end (by (repeat (first | exact noRo_nil | assumption | apply noRo_own | apply noRo_dead | apply noRo_app))) (by simp; omega) rfl (by simp)
  | true =>
    have gd := good_iff.1 hg
    simp (config := {implicitDefEqProofs := false, maxDischargeDepth := 20}) (disch := first | omega | (simp only [lenE]; done) | (simp only [lenE]; omega) | rfl | (simp only [lenE, markR_len]; done) | (simp only [lenE, markR_len]; omega)) only [runE, mapE, listE, initT_5, initT_6, initT_7, initT_8, resV, oneV, binA, unA, reduceCtorEq, Nat.reduceEqDiff, Nat.reduceAdd, Nat.reduceLT, Nat.reduceLeDiff, Nat.reduceMul, Nat.reduceSub, ↓reduceIte, decide_true, decide_false, Bool.true_eq_false, Bool.false_eq_true, Bool.not_true, Bool.not_false, if_true, if_false, and_true, true_and, memE, celE, w64, Nat.zero_add, Nat.add_zero, Nat.mul_one, putL, and_self, ldn]
    refine callH_rc (stocksFor_rc _ v1 u k.need plan ((h1.ext _).ext _) ((hu.ext _).ext _) (fun x hx => by have := gd.need x hx; omega) gd.n8) ?_
    rw [(stkA_for hg).1, (stkA_for hg).2, List.append_assoc (roM m)]
    intro r new2 hA
    have hA2 := hA
    obtain ⟨id, fl, rfl, -, -, -, nr2⟩ := hA2.row0
    simp (config := {implicitDefEqProofs := false, maxDischargeDepth := 20}) (disch := first | omega | (simp only [lenE]; done) | (simp only [lenE]; omega) | rfl | (simp only [lenE, markR_len]; done) | (simp only [lenE, markR_len]; omega)) only [runE, mapE, listE, initT_5, initT_6, initT_7, initT_8, resV, oneV, binA, unA, reduceCtorEq, Nat.reduceEqDiff, Nat.reduceAdd, Nat.reduceLT, Nat.reduceLeDiff, Nat.reduceMul, Nat.reduceSub, ↓reduceIte, decide_true, decide_false, Bool.true_eq_false, Bool.false_eq_true, Bool.not_true, Bool.not_false, if_true, if_false, and_true, true_and, memE, celE, w64, Nat.zero_add, Nat.add_zero, Nat.mul_one, putL, and_self, ldn, ext20, ext21]
    exact AnsL.pass (by (repeat (first | exact noRo_nil | assumption | apply noRo_own | apply noRo_dead | apply noRo_app))) hA
end Go.Proofs.Ytibkaclkaigflaa.Ab
end
section
namespace Go.Proofs.Ytibkaclkaigflaa.Ab
open Go Go.RowKit
set_option linter.unusedVariables false
set_option linter.unusedSimpArgs false
def BoxA (m : Mem) (id : Nat) (vs : List Value) : Prop := ∃ e, m[id]? = some ⟨.own, e, vs⟩
theorem BoxA.lt {m : Mem} {id : Nat} {vs : List Value} (h : BoxA m id vs) : id < m.length := by
  obtain ⟨_, h⟩ := h
  exact (List.getElem?_eq_some_iff.1 h).1
theorem BoxA.ext {m : Mem} {id : Nat} {vs : List Value} (h : BoxA m id vs) (new : Mem) : BoxA (m ++ new) id vs := by
  have hl := h.lt
  obtain ⟨e, h⟩ := h
  exact ⟨e, by rw [List.getElem?_append_left hl]; exact h⟩
theorem BoxA.here (m : Mem) (e : TypeId) (vs : List Value) {id : Nat} (h : id = m.length) : BoxA (m ++ [⟨.own, e, vs⟩]) id vs := ⟨e, by rw [h]; simp⟩
theorem ext_2_0 (a b : Value) : extA 0 (.tuple #[a, b]) = some a := rfl
theorem ext_2_1 (a b : Value) : extA 1 (.tuple #[a, b]) = some b := rfl
theorem ext_4_0 (a b c d : Value) : extA 0 (.tuple #[a, b, c, d]) = some a := rfl
theorem ext_4_1 (a b c d : Value) : extA 1 (.tuple #[a, b, c, d]) = some b := rfl
theorem ext_4_2 (a b c d : Value) : extA 2 (.tuple #[a, b, c, d]) = some c := rfl
theorem ext_4_3 (a b c d : Value) : extA 3 (.tuple #[a, b, c, d]) = some d := rfl

end Go.Proofs.Ytibkaclkaigflaa.Ab
end
section
namespace Go.Proofs.Ytibkaclkaigflaa.Ab
open Go Go.RowKit
set_option linter.unusedVariables false
set_option linter.unusedSimpArgs false
def Ext (m M : Mem) : Prop := ∃ new, M = roM m ++ new ∧ NoRo new
theorem Ext.refl (m : Mem) : Ext m (roM m) := ⟨[], by simp, noRo_nil⟩
theorem Ext.app {m M new : Mem} (h : Ext m M) (hn : NoRo new) : Ext m (M ++ new) := by
  obtain ⟨n0, rfl, h0⟩ := h
  exact ⟨n0 ++ new, by rw [List.append_assoc], noRo_app h0 hn⟩
theorem Ext.one {m M : Mem} (h : Ext m M) (e : TypeId) (cs : List Value) : Ext m (M ++ [⟨.own, e, cs⟩]) := h.app (noRo_own noRo_nil)
theorem Ext.len {m M : Mem} (h : Ext m M) : m.length ≤ M.length := by
  obtain ⟨n0, rfl, h0⟩ := h
  simp [roM_len]
theorem Ext.ints {m M : Mem} (h : Ext m M) {v : Value} {l : List Int} (hi : IntsA (roM m) v l) : IntsA M v l := by
  obtain ⟨n0, rfl, h0⟩ := h
  exact hi.ext _
theorem noRo_set {l : Mem} {i : Nat} (h : NoRo l) : NoRo (l.set i deadB) := fun b hb => by
  rcases List.mem_or_eq_of_mem_set hb with h1 | h1
  · exact h b h1
  · rw [h1]; simp [deadB]
theorem Ext.dead {m M : Mem} (h : Ext m M) {id : Nat} (hid : m.length ≤ id) : Ext m (M.set id deadB) := by
  obtain ⟨n0, rfl, h0⟩ := h
  exact ⟨n0.set (id - m.length) deadB, by rw [List.set_append_right _ _ (by rw [roM_len]; exact hid), roM_len], noRo_set h0⟩
theorem OwnR.dead {m : Mem} {id id' : Nat} {l : List Int} (h : OwnR m id' l) (hne : id ≠ id') : OwnR (m.set id deadB) id' l := by
  unfold OwnR; rw [List.getElem?_set_ne hne]; exact h
theorem OwnR.at_end (m : Mem) (l : List Int) : OwnR (m ++ [⟨.own, 3, l.map (Value.int .i64)⟩]) m.length l := by unfold OwnR; simp
theorem OwnR.end' {m : Mem} {l : List Int} {id : Nat} (h : id = m.length) : OwnR (m ++ [⟨.own, 3, l.map (Value.int .i64)⟩]) id l := by rw [h]; exact OwnR.at_end m l
theorem app_gen {M : Mem} {l : List Int} {x : Int} {id : Nat} (h : OwnR M id l) (hb : l.length ≤ 1048576) :
    appP (M ++ [⟨.own, 3, [.int .i64 x]⟩]) 3 1 8 (.slice (some ⟨id, 0, none⟩) l.length 1) (.slice (some ⟨M.length, 0, none⟩) 1 1) =
      some (.slice (some ⟨M.length + 1, 0, none⟩) (l.length + 1) 1, M.set id deadB ++ [⟨.own, 3, [.int .i64 x]⟩] ++ [⟨.own, 3, (l ++ [x]).map (Value.int .i64)⟩]) := by
  have hl := h.lt
  have e1 : slR (M ++ [⟨.own, 3, [.int .i64 x]⟩]) 1 (.slice (some ⟨M.length, 0, none⟩) 1 1) = some [.int .i64 x] := by
    simp only [slR, rdl, Nat.mul_one]
    simp
  unfold appP
  rw [e1]
  simp only [onesB_int, onesB_nil, if_true, appA, lenOfA]
  rw [List.getElem?_append_left hl, show M[id]? = some (rowB l) from h]
  simp only [List.length_map, Nat.mul_one, true_and]
  rw [if_pos (by omega), List.set_append_left _ _ hl]
  simp
theorem ext_ansL {m M : Mem} {l : List Int} {id n fl : Nat} {ok : Bool} (h : Ext m M) (ho : OwnR M id l) (hid : m.length ≤ id) (hn : n = l.length) (hl : l.length ≤ 1048576) :
    newQ m (AnsL m l ok) (.tuple #[.slice (some ⟨id, 0, none⟩) n fl, .bool ok]) M := by
  subst hn
  obtain ⟨n0, rfl, h0⟩ := h
  unfold OwnR at ho
  rw [List.getElem?_append_right (by rw [roM_len]; exact hid), roM_len] at ho
  exact ⟨n0, rfl, h0, h0, hl, id - m.length, fl, by rw [Nat.add_sub_cancel' hid], ho⟩
theorem ext_ansR {m M : Mem} {l : List Int} {id n fl : Nat} (h : Ext m M) (ho : OwnR M id l) (hid : m.length ≤ id) (hn : n = l.length) (hl : l.length ≤ 1048576) :
    newQ m (AnsR m l) (.slice (some ⟨id, 0, none⟩) n fl) M := by
  subst hn
  obtain ⟨n0, rfl, h0⟩ := h
  unfold OwnR at ho
  rw [List.getElem?_append_right (by rw [roM_len]; exact hid), roM_len] at ho
  exact ⟨n0, rfl, h0, h0, hl, id - m.length, fl, by rw [Nat.add_sub_cancel' hid], ho⟩
theorem ext_ansV {m M : Mem} {x v : Value} (h : Ext m M) (hv : v = x) : newQ m (AnsV x) v M := by
  obtain ⟨n0, rfl, h0⟩ := h
  exact ⟨n0, rfl, h0, hv, h0⟩
theorem AnsL.row {m new : Mem} {l : List Int} {ok : Bool} {r : Value} (h : AnsL m l ok r new) : ∃ id fl, r = .tuple #[.slice (some ⟨id, 0, none⟩) l.length fl, .bool ok] ∧ m.length ≤ id ∧ OwnR (m ++ new) id l ∧ l.length ≤ 1048576 ∧ NoRo new := by
  obtain ⟨h1, h2, i, fl, rfl, h3⟩ := h
  exact ⟨_, fl, rfl, by omega, OwnR.new h3 rfl, h2, h1⟩

def picks (f : Int → Bool) (l : List Int) : Nat → List Int
  | 0 => []
  | k + 1 => if f (l.getD k 0) then picks f l k ++ [(k : Int)] else picks f l k
theorem picks_len (f : Int → Bool) (l : List Int) (k : Nat) : (picks f l k).length ≤ k := by
  induction k with
  | zero => simp [picks]
  | succ k ih => rw [picks]; split <;> (try rw [List.length_append, List.length_singleton]) <;> omega

theorem stocksA_yes {k : Cs} {plan : List Int} (h : two k plan = true) : stocksA k plan = stocksL plan k.need := by unfold stocksA; rw [h]; rfl

end Go.Proofs.Ytibkaclkaigflaa.Ab
end
section
namespace Go.Proofs.Ytibkaclkaigflaa.Ab
open Go Go.RowKit
set_option linter.unusedVariables false
set_option linter.unusedSimpArgs false
theorem goG_undef {P : Program} {n : Nat} (s : St) (k : Kont) (d : Option Nat) (rs : List ARow) (w : Bool) (x : AOp) : goG P n undef w d x rs k s = goR P n rs k (s.putT d undef) := rfl
def Grow (M0 M : Mem) : Prop := ∃ R, M = M0 ++ R ∧ NoRo R
theorem Grow.refl (M : Mem) : Grow M M := ⟨[], by simp, noRo_nil⟩
theorem Grow.app {M0 M new : Mem} (h : Grow M0 M) (hn : NoRo new) : Grow M0 (M ++ new) := by
  obtain ⟨R, rfl, h0⟩ := h
  exact ⟨R ++ new, by rw [List.append_assoc], noRo_app h0 hn⟩
theorem Grow.one {M0 M : Mem} (h : Grow M0 M) (e : TypeId) (cs : List Value) : Grow M0 (M ++ [⟨.own, e, cs⟩]) := h.app (noRo_own noRo_nil)
theorem Grow.len {M0 M : Mem} (h : Grow M0 M) : M0.length ≤ M.length := by
  obtain ⟨R, rfl, h0⟩ := h
  simp
theorem Grow.trans {A B C : Mem} (h : Grow A B) (h' : Grow B C) : Grow A C := by
  obtain ⟨R, rfl, h0⟩ := h
  obtain ⟨S, rfl, h1⟩ := h'
  exact ⟨R ++ S, by rw [List.append_assoc], noRo_app h0 h1⟩
theorem noRo_setO {l : Mem} {i : Nat} {e : TypeId} {cs : List Value} (h : NoRo l) : NoRo (l.set i ⟨.own, e, cs⟩) := fun b hb => by
  rcases List.mem_or_eq_of_mem_set hb with h1 | h1
  · exact h b h1
  · rw [h1]; simp
theorem Grow.dead {M0 M : Mem} (h : Grow M0 M) {id : Nat} (hid : M0.length ≤ id) : Grow M0 (M.set id deadB) := by
  obtain ⟨R, rfl, h0⟩ := h
  exact ⟨R.set (id - M0.length) deadB, by rw [List.set_append_right _ _ hid], noRo_set h0⟩
theorem Grow.put {M0 M : Mem} (h : Grow M0 M) {id : Nat} (hid : M0.length ≤ id) (e : TypeId) (cs : List Value) : Grow M0 (M.set id ⟨.own, e, cs⟩) := by
  obtain ⟨R, rfl, h0⟩ := h
  exact ⟨R.set (id - M0.length) ⟨.own, e, cs⟩, by rw [List.set_append_right _ _ hid], noRo_setO h0⟩
theorem Grow.rd {M0 M : Mem} (h : Grow M0 M) {id k : Nat} {v : Value} (hv : rdc M0 id k = some v) : rdc M id k = some v := by
  obtain ⟨R, rfl, h0⟩ := h
  exact rdc_ext hv
theorem Grow.ints {M0 M : Mem} (h : Grow M0 M) {v : Value} {l : List Int} (hi : IntsA M0 v l) : IntsA M v l := by
  obtain ⟨R, rfl, h0⟩ := h
  exact hi.ext R
theorem Grow.own {M0 M : Mem} (h : Grow M0 M) {id : Nat} {l : List Int} (hi : OwnR M0 id l) : OwnR M id l := by
  obtain ⟨R, rfl, h0⟩ := h
  exact hi.ext R
theorem Grow.case {M0 M : Mem} (h : Grow M0 M) {v : Value} {k : Cs} (hi : CaseA M0 v k) : CaseA M v k := by
  obtain ⟨R, rfl, h0⟩ := h
  exact hi.ext R
theorem Ext.grow {m M0 M : Mem} (h : Ext m M0) (h' : Grow M0 M) : Ext m M := by
  obtain ⟨R, rfl, h0⟩ := h'
  exact h.app h0
theorem Ext.put {m M : Mem} (h : Ext m M) {id : Nat} (hid : m.length ≤ id) (e : TypeId) (cs : List Value) : Ext m (M.set id ⟨.own, e, cs⟩) := by
  obtain ⟨new, rfl, hn⟩ := h
  exact ⟨new.set (id - m.length) ⟨.own, e, cs⟩, by rw [List.set_append_right _ _ (by rw [roM_len]; exact hid), roM_len], noRo_setO hn⟩
theorem OwnR.st {M : Mem} {id off : Nat} {L : List Int} {x : Int} (h : OwnR M id L) (ho : off < L.length) : stA M id off [.int .i64 x] = some (M.set id (rowB (L.set off x))) := by
  rw [stA_at (show M[id]? = some ⟨.own, 3, L.map (Value.int .i64)⟩ from h) (by simpa using ho) rfl]
  unfold rowB
  rw [List.map_set]
theorem OwnR.set_self {M : Mem} {id : Nat} {L L' : List Int} (h : OwnR M id L) : OwnR (M.set id (rowB L')) id L' := by
  unfold OwnR; rw [List.getElem?_set_self h.lt]
theorem OwnR.set_ne {M : Mem} {id id' : Nat} {L : List Int} {b : Blk} (h : OwnR M id' L) (hne : id ≠ id') : OwnR (M.set id b) id' L := by
  unfold OwnR; rw [List.getElem?_set_ne hne]; exact h
theorem rdc_box {m : Mem} {e : TypeId} {cs : List Value} {id : Nat} (h : id = m.length) (k : Nat) : rdc (m ++ [⟨.own, e, cs⟩]) id k = cs[k]? := by
  rw [h]; exact rdc_new m e cs k
theorem mksA_eq {m : Mem} {e byt n : Nat} {z : Value} {a : Int} (ha : a = n) (h : n * byt ≤ 140737488355328 ∧ n ≤ 140737488355328) :
    mksA m e byt [z] (.int .i64 a) (.int .i64 a) = some (.slice (some ⟨m.length, 0, none⟩) n 1, m ++ [⟨.own, e, List.replicate n z⟩]) := by
  subst ha
  exact mksA_nat m e byt n z (by omega)
theorem OwnR.zeros {m : Mem} {n id : Nat} (h : id = m.length) : OwnR (m ++ [⟨.own, 3, List.replicate n (.int .i64 0)⟩]) id (List.replicate n 0) := by
  unfold OwnR rowB; rw [h]; simp
def cutL (l : List Int) (lo hi : Nat) : List Int := (l.take hi).drop lo
theorem cutL_len {l : List Int} {lo hi : Nat} (h : hi ≤ l.length) : (cutL l lo hi).length = hi - lo := by
  unfold cutL; rw [List.length_drop, List.length_take, Nat.min_eq_left h]
theorem cutL_at {l : List Int} {lo hi k : Nat} (hk : lo + k < hi) : (cutL l lo hi).getD k 0 = l.getD (lo + k) 0 := by
  unfold cutL
  rw [List.getD_eq_getElem?_getD, List.getD_eq_getElem?_getD, List.getElem?_drop, List.getElem?_take, if_pos hk]
theorem IntsA.lenOf {m : Mem} {v : Value} {l : List Int} (h : IntsA m v l) : lenOfA v = l.length := by
  have := h.len
  unfold lenA at this
  split at this
  · simp only [Option.some.injEq, Value.int.injEq, true_and] at this
    simp only [lenOfA]; omega
  · cases this
theorem IntsA.form {m : Mem} {v : Value} {l : List Int} (h : IntsA m v l) : (v = .slice none 0 0 ∧ l = []) ∨ ∃ id off fl, v = .slice (some ⟨id, off, none⟩) l.length fl := by
  have h1 := h.src
  have h2 := h.lenOf
  unfold slR at h1
  split at h1
  · exact .inl ⟨rfl, by simpa [lenOfA] using h2.symm⟩
  · simp only [lenOfA] at h2
    subst h2
    exact .inr ⟨_, _, _, rfl⟩
  · cases h1
theorem IntsA.cut {m : Mem} {v : Value} {l : List Int} (h : IntsA m v l) {lo hi : Nat} (h1 : lo ≤ hi) (h2 : hi ≤ l.length) :
    ∃ v', slcA 1 v (some (.int .i64 lo)) (some (.int .i64 hi)) = some v' ∧ IntsA m v' (cutL l lo hi) := by
  rcases h.form with ⟨rfl, rfl⟩ | ⟨id, off, fl, rfl⟩
  · have e1 : hi = 0 := by simpa using h2
    have e2 : lo = 0 := by omega
    subst e1 e2
    exact ⟨.slice none 0 0, rfl, IntsA.nil m⟩
  · refine ⟨.slice (some ⟨id, off + lo, none⟩) (hi - lo) 0, ?_, ?_⟩
    · simp [slcA, boundA, h1, h2]
    · have hb := h.bd
      rw [← cutL_len h2]
      refine IntsA.of_block (by rw [cutL_len h2]; omega) (fun k hk => ?_) ?_
      · rw [cutL_len h2] at hk
        rw [cutL_at (by omega)]
        have := h.ld (lo + k) (by omega)
        simp only [pAt, ldA] at this
        rw [Nat.add_assoc]; exact this
      · have hs := h.src
        simp only [slR, Nat.mul_one, rdl] at hs ⊢
        split at hs
        · rename_i b hb
          rw [cutL_len h2]
          split at hs
          · cases hs
          · split at hs
            · rename_i hd hle
              rw [if_neg hd, if_pos (by omega)]
              have hs' := Option.some.inj hs
              unfold cutL
              rw [List.map_drop, List.map_take, ← hs', List.take_take, List.drop_take, List.drop_drop, Nat.min_eq_left h2]
            · cases hs
        · cases hs

theorem IntsA.pre {m : Mem} {v : Value} {l : List Int} (h : IntsA m v l) {hi : Nat} (h2 : hi ≤ l.length) :
    ∃ v', slcA 1 v none (some (.int .i64 hi)) = some v' ∧ IntsA m v' (cutL l 0 hi) := by
  obtain ⟨x, e, hx⟩ := h.cut (lo := 0) (Nat.zero_le hi) h2
  rcases h.form with ⟨rfl, rfl⟩ | ⟨id, off, fl, rfl⟩
  · have e1 : hi = 0 := by simpa using h2
    subst e1
    exact ⟨.slice none 0 0, rfl, IntsA.nil m⟩
  · have hs : slcA 1 (.slice (some ⟨id, off, none⟩) l.length fl) none (some (.int .i64 hi)) = some (.slice (some ⟨id, off, none⟩) hi fl) := by
      simp [slcA, boundA, h2]
    have hs2 : slcA 1 (.slice (some ⟨id, off, none⟩) l.length fl) (some (.int .i64 0)) (some (.int .i64 hi)) = some (.slice (some ⟨id, off, none⟩) hi 0) := by
      simp [slcA, boundA, h2]
    have e0 : (((0 : Nat) : Int)) = 0 := rfl
    rw [e0, hs2] at e
    cases e
    have hc : (cutL l 0 hi).length = hi := by rw [cutL_len h2, Nat.sub_zero]
    refine ⟨_, hs, ?_⟩
    have a := hx
    refine ⟨a.len, a.bd, fun k hk => ?_, fun k hk => ?_, ?_⟩
    · have := a.at_ k hk
      simp only [iadA, pAt] at this ⊢
      exact this
    · exact a.ld k hk
    · exact a.src
theorem Ext.rd {m M : Mem} (h : Ext m M) {id k : Nat} {v : Value} (hv : rdc m id k = some v) : rdc M id k = some v := by
  obtain ⟨n0, rfl, h0⟩ := h
  exact rdc_ext (by rw [rdc_roM]; exact hv)
theorem periodsWith2_rc (m : Mem) (v fv : Value) (l : List Int) (f : Int → Bool) (h : IntsA m v l) (hf : ∀ M, Ext m M → TestA M fv f) (hl : l.length ≤ 1000) :
    RC Try.prog 31 [v, fv] m (AnsR m (picks f l l.length)) := by
  refine rc_of_run mixed ok_impl_periodsWith (by simp) (go_start _ _ _ ?_)
  have hr := h.ro
  have hpl := fun k => picks_len f l k
  obtain ⟨g, cap, rfl, -⟩ := hf _ (Ext.refl m)
  simp (config := {implicitDefEqProofs := false, maxDischargeDepth := 20}) (disch := first | omega | (simp only [lenE]; done) | (simp only [lenE]; omega) | rfl | (simp only [lenE, markR_len]; done) | (simp only [lenE, markR_len]; omega)) only [runE, mapE, listE, initT_5, initT_6, initT_7, initT_8, resV, oneV, binA, unA, reduceCtorEq, Nat.reduceEqDiff, Nat.reduceAdd, Nat.reduceLT, Nat.reduceLeDiff, Nat.reduceMul, Nat.reduceSub, ↓reduceIte, decide_true, decide_false, Bool.true_eq_false, Bool.false_eq_true, Bool.not_true, Bool.not_false, if_true, if_false, and_true, true_and, memE, celE, w64, Nat.zero_add, Nat.add_zero, Nat.mul_one, putL, and_self, ldn, c_impl_periodsWith, r_impl_periodsWith, hr.len, bsl_none]
  refine loop_inv mixed (fun s => ∃ (k : Nat) (M : Mem) (id : Nat), k ≤ l.length ∧ s.m = M ∧ Ext m M ∧ OwnR M id (picks f l k) ∧ m.length ≤ id ∧ s.t 1 = .func (.func g) #[] cap ∧ s.t 5 = .slice (some ⟨id, 0, none⟩) (picks f l k).length 1 ∧ s.t 9 = v ∧ s.t 10 = .int .i64 l.length ∧ s.t 11 = .int .i64 k) (fun s => l.length - (intOf (s.t 11)).toNat)
    ⟨0, _, m.length, by omega, rfl, (Ext.refl m).one _ _, by have := OwnR.at_end (roM m) []; rwa [roM_len] at this, by omega, rfl, rfl, rfl, rfl, rfl⟩ ?_
  rintro s ⟨k, M, id, hk, tm, hx, ho, hid, t1, t5, t9, t10, t11⟩
  by_cases hlt : k < l.length
  · have hlt' : (k : Int) < l.length := by omega
    have hi := hx.ints hr
    simp (config := {implicitDefEqProofs := false, maxDischargeDepth := 20}) (disch := first | omega | (simp only [lenE]; done) | (simp only [lenE]; omega) | rfl | (simp only [lenE, markR_len]; done) | (simp only [lenE, markR_len]; omega)) only [runE, mapE, listE, initT_5, initT_6, initT_7, initT_8, resV, oneV, binA, unA, reduceCtorEq, Nat.reduceEqDiff, Nat.reduceAdd, Nat.reduceLT, Nat.reduceLeDiff, Nat.reduceMul, Nat.reduceSub, ↓reduceIte, decide_true, decide_false, Bool.true_eq_false, Bool.false_eq_true, Bool.not_true, Bool.not_false, if_true, if_false, and_true, true_and, memE, celE, w64, Nat.zero_add, Nat.add_zero, Nat.mul_one, putL, and_self, ldn, tm, t1, t5, t9, t10, t11, hi.at_ k hlt, hi.ld k hlt, hlt']
    obtain ⟨g', cap', e, hc⟩ := hf M hx
    cases e
    refine callH_rc (hc _ M fun _ _ _ hv => hv) ?_
    rintro r new ⟨rfl, rfl⟩
    rw [List.append_nil]
    cases hb : f (l.getD k 0) with
    | true =>
      simp (config := {implicitDefEqProofs := false, maxDischargeDepth := 20}) (disch := first | omega | (simp only [lenE]; done) | (simp only [lenE]; omega) | rfl | (simp only [lenE, markR_len]; done) | (simp only [lenE, markR_len]; omega)) only [runE, mapE, listE, initT_5, initT_6, initT_7, initT_8, resV, oneV, binA, unA, reduceCtorEq, Nat.reduceEqDiff, Nat.reduceAdd, Nat.reduceLT, Nat.reduceLeDiff, Nat.reduceMul, Nat.reduceSub, ↓reduceIte, decide_true, decide_false, Bool.true_eq_false, Bool.false_eq_true, Bool.not_true, Bool.not_false, if_true, if_false, and_true, true_and, memE, celE, w64, Nat.zero_add, Nat.add_zero, Nat.mul_one, putL, and_self, ldn, tm, t1, t5, t9, t10, t11, bsl_one, app_gen ho (by have := hpl k; omega)]
      refine ⟨⟨k + 1, _, M.length + 1, by omega, rfl, ((hx.dead hid).one _ _).one _ _, ?_, by have := hx.len; omega, by rw [picks, if_pos hb]; simp, by simp⟩, ?_⟩
      · rw [picks, if_pos hb]
        have := OwnR.at_end (M.set id deadB ++ [⟨.own, 3, [.int .i64 (k : Int)]⟩]) (picks f l k ++ [(k : Int)])
        simpa using this
      · simp [intOf]; omega
    | false =>
      simp (config := {implicitDefEqProofs := false, maxDischargeDepth := 20}) (disch := first | omega | (simp only [lenE]; done) | (simp only [lenE]; omega) | rfl | (simp only [lenE, markR_len]; done) | (simp only [lenE, markR_len]; omega)) only [runE, mapE, listE, initT_5, initT_6, initT_7, initT_8, resV, oneV, binA, unA, reduceCtorEq, Nat.reduceEqDiff, Nat.reduceAdd, Nat.reduceLT, Nat.reduceLeDiff, Nat.reduceMul, Nat.reduceSub, ↓reduceIte, decide_true, decide_false, Bool.true_eq_false, Bool.false_eq_true, Bool.not_true, Bool.not_false, if_true, if_false, and_true, true_and, memE, celE, w64, Nat.zero_add, Nat.add_zero, Nat.mul_one, putL, and_self, ldn, tm, t1, t5, t9, t10, t11]
      refine ⟨⟨k + 1, M, id, by omega, rfl, hx, by rw [picks, if_neg (by rw [hb]; simp)]; exact ho, hid, by rw [picks, if_neg (by rw [hb]; simp)], by simp⟩, ?_⟩
      simp [intOf]; omega
  · have hlt' : ¬ ((k : Int) < l.length) := by omega
    have e : k = l.length := by omega
    subst e
    simp (config := {implicitDefEqProofs := false, maxDischargeDepth := 20}) (disch := first | omega | (simp only [lenE]; done) | (simp only [lenE]; omega) | rfl | (simp only [lenE, markR_len]; done) | (simp only [lenE, markR_len]; omega)) only [runE, mapE, listE, initT_5, initT_6, initT_7, initT_8, resV, oneV, binA, unA, reduceCtorEq, Nat.reduceEqDiff, Nat.reduceAdd, Nat.reduceLT, Nat.reduceLeDiff, Nat.reduceMul, Nat.reduceSub, ↓reduceIte, decide_true, decide_false, Bool.true_eq_false, Bool.false_eq_true, Bool.not_true, Bool.not_false, if_true, if_false, and_true, true_and, memE, celE, w64, Nat.zero_add, Nat.add_zero, Nat.mul_one, putL, and_self, ldn, tm, t1, t5, t9, t10, t11, hlt']
    exact ext_ansR hx ho hid rfl (by have := hpl l.length; omega)
end Go.Proofs.Ytibkaclkaigflaa.Ab
end
