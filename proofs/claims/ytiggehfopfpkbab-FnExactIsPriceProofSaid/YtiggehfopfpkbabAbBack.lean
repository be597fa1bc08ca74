/- Backward costs: BackwardCosts; horizons: HorizonsOf. -/
import Derived.Test.YtiggehfopfpkbabAbTable
namespace Go.Proofs.Ytiggehfopfpkbab.Ab
open Go Go.RowKit
set_option linter.unusedVariables false
set_option linter.unusedSimpArgs false

theorem OwnR.rd {M : Mem} {id i : Nat} {L : List Int} (h : OwnR M id L) (hi : i < L.length) : rdc M id i = some (.int .i64 (L.getD i 0)) := by
  unfold rdc
  rw [show M[id]? = some (rowB L) from h]
  simp [hi]
theorem set_rep (i : Nat) (a v : Int) (T : List Int) : (List.replicate i 0 ++ a :: T).set i v = List.replicate i 0 ++ v :: T := by
  rw [List.set_append_right _ _ (by simp)]; simp
theorem getD_rep0 (i : Nat) (a : Int) (T : List Int) : (List.replicate i 0 ++ a :: T).getD i 0 = a := by
  rw [List.getD_eq_getElem?_getD, List.getElem?_append_right (by simp)]; simp
theorem getD_rep1 (i x : Nat) (a : Int) (T : List Int) : (List.replicate i 0 ++ a :: T).getD (i + 1 + x) 0 = T.getD x 0 := by
  rw [List.getD_eq_getElem?_getD, List.getElem?_append_right (by simp; omega), List.length_replicate, show i + 1 + x - i = x + 1 by omega, List.getElem?_cons_succ, List.getD_eq_getElem?_getD]
theorem rep_one (i : Nat) (T : List Int) : List.replicate (i + 1) (0 : Int) ++ T = List.replicate i 0 ++ 0 :: T := by
  rw [List.replicate_succ', List.append_assoc]; rfl

def backA (k : Cs) : List Int := if k.good then bwdL k else []
theorem backA_no {k : Cs} (h : k.good = false) : backA k = [] := by unfold backA; rw [h]; rfl
theorem backA_yes {k : Cs} (h : k.good = true) : backA k = bwdL k := by unfold backA; rw [h]; rfl
def horA (k : Cs) : List Int := if k.good then horP k (fwdL k k.need.length) k.need.length else []
theorem horA_no {k : Cs} (h : k.good = false) : horA k = [] := by unfold horA; rw [h]; rfl
theorem horA_yes {k : Cs} (h : k.good = true) : horA k = horP k (fwdL k k.need.length) k.need.length := by unfold horA; rw [h]; rfl

theorem horP_s (k : Cs) (ls : List Int) (t : Nat) : horP k ls (t + 1) = if horAt k ls t then horP k ls t ++ [((t : Int) + 1)] else horP k ls t := rfl
end Go.Proofs.Ytiggehfopfpkbab.Ab
