/- The first early order; OrdersAtEmpty, LotForLot, WaitsNever. -/
import Derived.Test.YtnkbjliidenldaaAbPlan
import Derived.Test.YtnkbjliidenldaaAbBasis
import Derived.Test.YtnkbjliidenldaaCodMore
namespace Go.Proofs.Ytnkbjliidenldaa.Ab
open Go Go.RowKit
set_option linter.unusedVariables false
set_option linter.unusedSimpArgs false

def earlyF (f : Nat → Bool) : Nat → Nat → Option Nat
  | 0, _ => none
  | n + 1, t => if f t then some t else earlyF f n (t + 1)
def earlyAt (plan st : List Int) (p : Nat) : Bool := decide (0 < plan.getD p 0) && decide (0 < st.getD (p - 1) 0)
def earlyO (plan st : List Int) : Option Nat := earlyF (earlyAt plan st) (plan.length - 1) 1
def earlyI : Option Nat → Int
  | some t => t
  | none => -1
def earlyP : Option Nat → Int
  | some t => t
  | none => 0
theorem earlyF_yes {f : Nat → Bool} {n t : Nat} (h : t < n) (hf : f t = true) : earlyF f (n - t) t = some t := by
  rw [show n - t = (n - (t + 1)) + 1 by omega, earlyF, if_pos hf]
theorem earlyF_no {f : Nat → Bool} {n t : Nat} (h : t < n) (hf : f t = false) : earlyF f (n - t) t = earlyF f (n - (t + 1)) (t + 1) := by
  rw [show n - t = (n - (t + 1)) + 1 by omega, earlyF, if_neg (by rw [hf]; simp)]
theorem earlyF_end {f : Nat → Bool} {n t : Nat} (h : n ≤ t) : earlyF f (n - t) t = none := by
  rw [show n - t = 0 by omega, earlyF]

def atEmpty (k : Cs) (plan : List Int) : Bool := two k plan && (earlyO plan (stocksL plan k.need)).isNone
theorem app_all {M : Mem} {l0 l : List Int} {id : Nat} {v : Value} (h : OwnR M id l0) (hi : IntsA M v l) (hb : l0.length + l.length ≤ 1048576) :
    appP M 3 1 8 (.slice (some ⟨id, 0, none⟩) l0.length 1) v = some (.slice (some ⟨M.length, 0, none⟩) (l0.length + l.length) 1, M.set id deadB ++ [⟨.own, 3, (l0 ++ l).map (Value.int .i64)⟩]) := by
  unfold appP
  rw [hi.src]
  simp only [onesB_ints, if_true, appA, hi.lenOf]
  rw [show M[id]? = some (rowB l0) from h]
  simp only [List.length_map, Nat.mul_one, true_and]
  rw [if_pos (by omega)]
  simp
theorem app_own {M : Mem} {l : List Int} {v : Value} (hi : IntsA M v l) (hb : l.length ≤ 1048576) :
    appP (M ++ [⟨.own, 3, []⟩]) 3 1 8 (.slice (some ⟨M.length, 0, none⟩) 0 1) v = some (.slice (some ⟨M.length + 1, 0, none⟩) l.length 1, M ++ [deadB] ++ [⟨.own, 3, l.map (Value.int .i64)⟩]) := by
  have := app_all (OwnR.at_end M []) (hi.ext [⟨.own, 3, []⟩]) (by simpa using hb)
  simpa using this
theorem bsl_none' {m : Mem} : bslA m 3 1 0 [] [] = some (.slice (some ⟨m.length, 0, none⟩) 0 1, m ++ [⟨.own, 3, []⟩]) := rfl

theorem l1Own_rc (m : Mem) (v : Value) (l : List Int) (h : IntsA m v l) (hl : l.length ≤ 1048576) : RC Try.prog 80 [v] m (AnsR m l) := by
  refine rc_of_run mixed ok_spec_l1Own (by simp) (go_start _ _ _ ?_)
  have hr := h.ro
  have ha := app_own hr hl
  rw [roM_len] at ha
  simp (config := {implicitDefEqProofs := false, maxDischargeDepth := 20}) (disch := first | omega | (simp only [lenE]; done) | (simp only [lenE]; omega) | rfl | (simp only [lenE, markR_len]; done) | (simp only [lenE, markR_len]; omega)) only [runE, mapE, listE, initT_5, initT_6, initT_7, initT_8, resV, oneV, binA, unA, reduceCtorEq, Nat.reduceEqDiff, Nat.reduceAdd, Nat.reduceLT, Nat.reduceLeDiff, Nat.reduceMul, Nat.reduceSub, ↓reduceIte, decide_true, decide_false, Bool.true_eq_false, Bool.false_eq_true, Bool.not_true, Bool.not_false, if_true, if_false, and_true, true_and, memE, celE, w64, Nat.zero_add, Nat.add_zero, Nat.mul_one, putL, and_self, ldn, c_spec_l1Own, r_spec_l1Own, bsl_none', ha]
  exact ext_ansR (((Ext.refl m).app (noRo_dead noRo_nil)).one _ _) (OwnR.end' (by simp [roM_len])) (by omega) rfl hl

def lotA (k : Cs) : List Int := if k.good then k.need else []
def waitAt (k : Cs) (j : Nat) : Bool := decide (¬ (k.unit.getD j 0 + k.hold.getD j 0 < k.unit.getD (j + 1) 0))
def waitsB (k : Cs) : Bool := (List.range (k.need.length - 1)).all (waitAt k)
theorem waits_yes {k : Cs} (h : ∀ j, j < k.need.length - 1 → waitAt k j = true) : waitsB k = true := by
  unfold waitsB; rw [List.all_eq_true]; intro j hj; exact h j (List.mem_range.1 hj)
theorem waits_no {k : Cs} {j : Nat} (hj : j < k.need.length - 1) (h : waitAt k j = false) : waitsB k = false := by
  cases hr : waitsB k with
  | false => rfl
  | true => unfold waitsB at hr; rw [List.all_eq_true] at hr; rw [hr j (List.mem_range.2 hj)] at h; cases h

end Go.Proofs.Ytnkbjliidenldaa.Ab
