/- What the law needs of the texts that it rests on. -/
import Derived.Test.YtncajinepljdhaaShFnForwardCosts2
section
namespace Go.Proofs.Ytncajinepljdhaa.Ab
open Go Go.RowKit
set_option linter.unusedVariables false
theorem ws_word : ∀ (p r : List Char), p.all (fun c => c != ' ') = true → wordsSigns (p ++ ' ' :: r) = p :: wordsSigns r
  | [], r, _ => by rw [List.nil_append, wordsSigns]
  | c :: p, r, h => by
    rw [List.all_cons, Bool.and_eq_true] at h
    have hc : c ≠ ' ' := by simpa using h.1
    rw [List.cons_append, wordsSigns, ws_word p r h.2]
    intro e; exact hc e
def sumW : List Char := ['e', '6', 'c', '2', 'd', '9', '0', '9', '1', '2', 'a', 'a', '2', 'a', '9', '9', '6', '7', '7', '3', 'f', 'c', '3', '3', 'b', '7', '5', '3', '5', '0', '8', '7', 'd', '2', '3', '0', '1', 'a', '6', '0', '8', 'c', 'f', '4', 'b', '2', '6', 'f', '6', '5', 'f', '7', 'a', '6', 'b', '0', 'a', 'e', '5', '8', 'b', 'f', '3', '5']
def restW : List Char := ['a', 't', ' ', 'l', 'o', 'o', 'p', '.', 'e', 'x', 'a', 'm', 'p', 'l', 'e', '/', 'g', '0', '1', '1', '1', '1', '/', 'l', 'a', 'w', 's', '.', 'F', 'n', 'F', 'o', 'r', 'w', 'a', 'r', 'd', 'C', 'o', 's', 't', 's', ' ', 'l', 'o', 'o', 'p', '.', 'e', 'x', 'a', 'm', 'p', 'l', 'e', '/', 'g', '0', '1', '1', '1', '1', '/', 'l', 'a', 'w', 's', '.', 'F', 'n', 'H', 'o', 'r', 'i', 'z', 'o', 'n', 's', ' ', 'l', 'o', 'o', 'p', '.', 'e', 'x', 'a', 'm', 'p', 'l', 'e', '/', 'g', '0', '1', '1', '1', '1', '/', 'l', 'a', 'w', 's', '.', 'F', 'n', 'F', 'a', 'i', 'r', 'P', 'r', 'i', 'c', 'e', 's', ' ', 'l', 'o', 'o', 'p', '.', 'e', 'x', 'a', 'm', 'p', 'l', 'e', '/', 'g', '0', '1', '1', '1', '1', '/', 'l', 'a', 'w', 's', '.', 'F', 'n', 'R', 'u', 'l', 'e', 's', ' ', 'l', 'o', 'o', 'p', '.', 'e', 'x', 'a', 'm', 'p', 'l', 'e', '/', 'g', '0', '1', '1', '1', '1', '/', 'l', 'a', 'w', 's', '.', 'F', 'n', 'P', 'l', 'a', 'n', 's', ' ', 'l', 'o', 'o', 'p', '.', 'e', 'x', 'a', 'm', 'p', 'l', 'e', '/', 'g', '0', '1', '1', '1', '1', '/', 'l', 'a', 'w', 's', '.', 'F', 'n', 'B', 'e', 's', 't', 'P', 'l', 'a', 'n', 's', ' ', 'l', 'o', 'o', 'p', '.', 'e', 'x', 'a', 'm', 'p', 'l', 'e', '/', 'g', '0', '1', '1', '1', '1', '/', 'l', 'a', 'w', 's', '.', 'F', 'n', 'L', 'i', 'm', 'i', 't', 's', ' ', 'l', 'o', 'o', 'p', '.', 'e', 'x', 'a', 'm', 'p', 'l', 'e', '/', 'g', '0', '1', '1', '1', '1', '/', 'l', 'a', 'w', 's', '.', 'F', 'n', 'R', 'e', 'g', 'u', 'l', 'a', 'r', ' ', 'l', 'o', 'o', 'p', '.', 'e', 'x', 'a', 'm', 'p', 'l', 'e', '/', 'g', '0', '1', '1', '1', '1', '/', 'l', 'a', 'w', 's', '.', 'F', 'n', 'L', 'a', 't', 'e', 'P', 'l', 'a', 'n', 's', ' ', 'l', 'o', 'o', 'p', '.', 'e', 'x', 'a', 'm', 'p', 'l', 'e', '/', 'g', '0', '1', '1', '1', '1', '/', 'l', 'a', 'w', 's', '.', 'F', 'n', 'E', 'x', 'a', 'c', 't', 'J', 'o', 'i', 'n', 'C', 'a', 's', 'e', 's']
set_option maxRecDepth 100000 in
theorem head_is : Try.prog.initOrder = String.ofList (['h', 'a', 'r', 'n', 'e', 's', 's'] ++ ' ' :: (sumW ++ ' ' :: (['c', 'u', 't'] ++ ' ' :: restW))) := by kernel_rfl
set_option maxRecDepth 100000 in
theorem sum_ok : isSumSigns sumW = true := by kernel_rfl
theorem head_words : behindMainWord (wordsSigns Try.prog.initOrder.toList) = ['c', 'u', 't'] :: wordsSigns restW := by
  rw [head_is, String.toList_ofList, ws_word _ _ (by decide), ws_word _ _ (by decide), ws_word _ _ (by decide)]
  simp only [behindMainWord, sum_ok, Bool.and_true]
  rfl
set_option maxRecDepth 100000 in
theorem strip_cut (X : List (List Char)) : stripLifts liftWords (['c', 'u', 't'] :: X) = ([], ['c', 'u', 't'] :: X) := by kernel_rfl
theorem lifts_gen (P : Program) (X : List (List Char)) (h : behindMainWord (wordsSigns P.initOrder.toList) = ['c', 'u', 't'] :: X) : P.headLifts = [] := by
  unfold Program.headLifts
  rw [h, strip_cut]
  rfl
theorem enters_gen (P : Program) (X : List (List Char)) (h : behindMainWord (wordsSigns P.initOrder.toList) = ['c', 'u', 't'] :: X) (h1 : P.laysLater = false) (h2 : P.bearsReflect = false) (h3 : P.doorFits [] = true) : P.mayEnter = true := by
  unfold Program.mayEnter
  rw [h]
  simp only [strip_cut, h1, h2, h3]
  rfl
theorem finals_gen (P : Program) (X : List (List Char)) (h : behindMainWord (wordsSigns P.initOrder.toList) = ['c', 'u', 't'] :: X) : P.liftsFinal = false := by
  unfold Program.liftsFinal
  rw [lifts_gen P X h, h]
  rfl
theorem make_gen (P : Program) (X : List (List Char)) (h : behindMainWord (wordsSigns P.initOrder.toList) = ['c', 'u', 't'] :: X) : P.make = some .cut := by
  unfold Program.make
  rw [h]
  rfl
set_option maxRecDepth 100000 in
theorem enters : Try.prog.mayEnter = true := enters_gen _ _ head_words (by kernel_rfl) (by kernel_rfl) (by kernel_rfl)
theorem no_finals : Try.prog.liftsFinal = false := finals_gen _ _ head_words
theorem makes : Try.prog.make = some .cut := make_gen _ _ head_words
end Go.Proofs.Ytncajinepljdhaa.Ab
end
