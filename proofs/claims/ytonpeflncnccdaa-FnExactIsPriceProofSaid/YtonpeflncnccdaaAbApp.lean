/- A number and then a row. -/
import Derived.Test.YtonpeflncnccdaaAbBasis
import Derived.Test.YtonpeflncnccdaaAbGrow
namespace Go.Proofs.Ytonpeflncnccdaa.Ab
open Go Go.RowKit
set_option linter.unusedVariables false
set_option linter.unusedSimpArgs false

theorem app_cons {M : Mem} {l : List Int} {x : Int} {v : Value} {id : Nat} (hi : IntsA M v l) (hb : l.length ≤ 1000) (hid : id = M.length) :
    appP (M ++ [⟨.own, 3, [.int .i64 x]⟩]) 3 1 8 (.slice (some ⟨id, 0, none⟩) 1 1) v = some (.slice (some ⟨id + 1, 0, none⟩) (1 + l.length) 1, M ++ [deadB] ++ [⟨.own, 3, (x :: l).map (Value.int .i64)⟩]) := by
  subst hid
  have h := app_all (l0 := [x]) (OwnR.at_end M [x]) (hi.ext [⟨.own, 3, [x].map (Value.int .i64)⟩]) (by simp; omega)
  simpa using h
theorem app_genH {M : Mem} {l : List Int} {x : Int} {id id2 n : Nat} (h : OwnR M id l) (hb : l.length ≤ 1048576) (h2 : id2 = M.length) (hn : n = l.length) :
    appP (M ++ [⟨.own, 3, [.int .i64 x]⟩]) 3 1 8 (.slice (some ⟨id, 0, none⟩) n 1) (.slice (some ⟨id2, 0, none⟩) 1 1) =
      some (.slice (some ⟨id2 + 1, 0, none⟩) (n + 1) 1, M.set id deadB ++ [⟨.own, 3, [.int .i64 x]⟩] ++ [⟨.own, 3, (l ++ [x]).map (Value.int .i64)⟩]) := by
  subst h2 hn
  exact app_gen h hb

end Go.Proofs.Ytonpeflncnccdaa.Ab
