/- The words at a program's head, read word by word (a long list of names is too much for the kernel's own reading of a string). -/
import Derived.Test.YtnkbjliidenldaaShell
import Derived.JoinedOf
namespace Go.Proofs.Ytnkbjliidenldaa.Ab
open Go Go.RowKit
set_option linter.unusedVariables false

theorem ws_word : ∀ (p r : List Char), p.all (fun c => c != ' ') = true → wordsSigns (p ++ ' ' :: r) = p :: wordsSigns r
  | [], r, _ => by rw [List.nil_append, wordsSigns]
  | c :: p, r, h => by
    rw [List.all_cons, Bool.and_eq_true] at h
    have hc : c ≠ ' ' := by simpa using h.1
    rw [List.cons_append, wordsSigns, ws_word p r h.2]
    intro e; exact hc e
def sumW : List Char := ['3', '1', '7', '7', '7', '3', '7', '9', '9', 'c', '6', '5', '1', '3', '7', 'e', 'b', 'c', '7', 'b', '0', '6', '1', 'e', '4', 'c', 'a', '7', 'c', '6', 'd', '6', 'd', 'd', '2', 'd', '4', '8', 'c', '9', '0', '5', '0', 'f', '8', 'e', 'f', '9', 'a', '4', '9', '4', 'a', '6', '9', '0', '7', 'd', '4', 'd', 'e', '0', '3', 'c']
def restW : List Char := ['a', 't', ' ', 'l', 'o', 'o', 'p', '.', 'e', 'x', 'a', 'm', 'p', 'l', 'e', '/', 'g', '0', '1', '1', '1', '1', '/', 'l', 'a', 'w', 's', '.', 'F', 'n', 'E', 'x', 'a', 'c', 't', 'I', 's', 'F', 'l', 'o', 'w', ' ', 'l', 'o', 'o', 'p', '.', 'e', 'x', 'a', 'm', 'p', 'l', 'e', '/', 'g', '0', '1', '1', '1', '1', '/', 'l', 'a', 'w', 's', '.', 'F', 'n', 'E', 'x', 'a', 'c', 't', 'P', 'o', 's', 'i', 't', 'i', 'o', 'n', 'O', 'f', ' ', 'l', 'o', 'o', 'p', '.', 'e', 'x', 'a', 'm', 'p', 'l', 'e', '/', 'g', '0', '1', '1', '1', '1', '/', 'l', 'a', 'w', 's', '.', 'F', 'n', 'E', 'x', 'a', 'c', 't', 'D', 'a', 'y', 'O', 'f', ' ', 'l', 'o', 'o', 'p', '.', 'e', 'x', 'a', 'm', 'p', 'l', 'e', '/', 'g', '0', '1', '1', '1', '1', '/', 'l', 'a', 'w', 's', '.', 'F', 'n', 'E', 'x', 'a', 'c', 't', 'I', 's', 'R', 'u', 'l', 'e', ' ', 'l', 'o', 'o', 'p', '.', 'e', 'x', 'a', 'm', 'p', 'l', 'e', '/', 'g', '0', '1', '1', '1', '1', '/', 'l', 'a', 'w', 's', '.', 'F', 'n', 'E', 'x', 'a', 'c', 't', 'R', 'u', 'l', 'e', 'O', 'r', 'd', 'e', 'r', ' ', 'l', 'o', 'o', 'p', '.', 'e', 'x', 'a', 'm', 'p', 'l', 'e', '/', 'g', '0', '1', '1', '1', '1', '/', 'l', 'a', 'w', 's', '.', 'F', 'n', 'E', 'x', 'a', 'c', 't', 'R', 'u', 'n', 'O', 'r', 'd', 'e', 'r', 's', ' ', 'l', 'o', 'o', 'p', '.', 'e', 'x', 'a', 'm', 'p', 'l', 'e', '/', 'g', '0', '1', '1', '1', '1', '/', 'l', 'a', 'w', 's', '.', 'F', 'n', 'E', 'x', 'a', 'c', 't', 'R', 'u', 'n', 'R', 'u', 'l', 'e', ' ', 'l', 'o', 'o', 'p', '.', 'e', 'x', 'a', 'm', 'p', 'l', 'e', '/', 'g', '0', '1', '1', '1', '1', '/', 'l', 'a', 'w', 's', '.', 'F', 'n', 'E', 'x', 'a', 'c', 't', 'S', 'e', 'r', 'v', 'i', 'c', 'e', 'O', 'f', ' ', 'l', 'o', 'o', 'p', '.', 'e', 'x', 'a', 'm', 'p', 'l', 'e', '/', 'g', '0', '1', '1', '1', '1', '/', 'l', 'a', 'w', 's', '.', 'F', 'n', 'E', 'x', 'a', 'c', 't', 'S', 't', 'o', 'c', 'k', 'C', 'o', 's', 't', ' ', 'l', 'o', 'o', 'p', '.', 'e', 'x', 'a', 'm', 'p', 'l', 'e', '/', 'g', '0', '1', '1', '1', '1', '/', 'l', 'a', 'w', 's', '.', 'F', 'n', 'E', 'x', 'a', 'c', 't', 'L', 'e', 'a', 'd', 'N', 'e', 'e', 'd', 's', ' ', 'l', 'o', 'o', 'p', '.', 'e', 'x', 'a', 'm', 'p', 'l', 'e', '/', 'g', '0', '1', '1', '1', '1', '/', 'l', 'a', 'w', 's', '.', 'F', 'n', 'E', 'x', 'a', 'c', 't', 'B', 'e', 's', 't', 'U', 'p', 'T', 'o', ' ', 'l', 'o', 'o', 'p', '.', 'e', 'x', 'a', 'm', 'p', 'l', 'e', '/', 'g', '0', '1', '1', '1', '1', '/', 'l', 'a', 'w', 's', '.', 'F', 'n', 'E', 'x', 'a', 'c', 't', 'A', 'r', 'r', 'i', 'v', 'a', 'l', 's', 'O', 'f', ' ', 'l', 'o', 'o', 'p', '.', 'e', 'x', 'a', 'm', 'p', 'l', 'e', '/', 'g', '0', '1', '1', '1', '1', '/', 'l', 'a', 'w', 's', '.', 'F', 'n', 'E', 'x', 'a', 'c', 't', 'C', 'r', 'o', 's', 's', 'i', 'n', 'g', 'P', 'a', 'i', 'r', 's', ' ', 'l', 'o', 'o', 'p', '.', 'e', 'x', 'a', 'm', 'p', 'l', 'e', '/', 'g', '0', '1', '1', '1', '1', '/', 'l', 'a', 'w', 's', '.', 'F', 'n', 'E', 'x', 'a', 'c', 't', 'S', 't', 'r', 'a', 'i', 'g', 'h', 't', 'L', 'e', 'a', 'd', 's', ' ', 'l', 'o', 'o', 'p', '.', 'e', 'x', 'a', 'm', 'p', 'l', 'e', '/', 'g', '0', '1', '1', '1', '1', '/', 'l', 'a', 'w', 's', '.', 'F', 'n', 'E', 'x', 'a', 'c', 't', 'P', 'a', 'r', 'c', 'e', 'l', 'S', 't', 'o', 'c', 'k', 's']
set_option maxRecDepth 100000 in
theorem head_is : Try.prog.initOrder = String.ofList (['h', 'a', 'r', 'n', 'e', 's', 's'] ++ ' ' :: (sumW ++ ' ' :: (['c', 'u', 't'] ++ ' ' :: restW))) := by kernel_rfl
set_option maxRecDepth 100000 in
theorem sum_ok : isSumSigns sumW = true := by kernel_rfl
theorem head_words : behindMainWord (wordsSigns Try.prog.initOrder.toList) = ['c', 'u', 't'] :: wordsSigns restW := by
  rw [head_is, String.toList_ofList, ws_word _ _ (by decide), ws_word _ _ (by decide), ws_word _ _ (by decide)]
  simp only [behindMainWord, sum_ok, Bool.and_true]
  rfl
set_option maxRecDepth 100000 in
theorem strip_cut (X : List (List Char)) : stripLifts liftWords (['c', 'u', 't'] :: X) = ([], ['c', 'u', 't'] :: X) := by kernel_rfl
theorem lifts_gen (P : Program) (X : List (List Char)) (h : behindMainWord (wordsSigns P.initOrder.toList) = ['c', 'u', 't'] :: X) : P.headLifts = [] := by
  unfold Program.headLifts
  rw [h, strip_cut]
  rfl
theorem enters_gen (P : Program) (X : List (List Char)) (h : behindMainWord (wordsSigns P.initOrder.toList) = ['c', 'u', 't'] :: X) (h1 : P.laysLater = false) (h2 : P.bearsReflect = false) (h3 : P.doorFits [] = true) : P.mayEnter = true := by
  unfold Program.mayEnter
  rw [h]
  simp only [strip_cut, h1, h2, h3]
  rfl
theorem finals_gen (P : Program) (X : List (List Char)) (h : behindMainWord (wordsSigns P.initOrder.toList) = ['c', 'u', 't'] :: X) : P.liftsFinal = false := by
  unfold Program.liftsFinal
  rw [lifts_gen P X h, h]
  rfl
theorem make_gen (P : Program) (X : List (List Char)) (h : behindMainWord (wordsSigns P.initOrder.toList) = ['c', 'u', 't'] :: X) : P.make = some .cut := by
  unfold Program.make
  rw [h]
  rfl
set_option maxRecDepth 100000 in
theorem enters : Try.prog.mayEnter = true := enters_gen _ _ head_words (by kernel_rfl) (by kernel_rfl) (by kernel_rfl)
theorem no_finals : Try.prog.liftsFinal = false := finals_gen _ _ head_words
theorem makes : Try.prog.make = some .cut := make_gen _ _ head_words
end Go.Proofs.Ytnkbjliidenldaa.Ab
