/- Processes that came in, as arguments. -/
import Derived.Test.YtddnedngjijpoaaTabIn
import Derived.Test.YtddnedngjijpoaaPolMath
namespace Go.Proofs.Ytddnedngjijpoaa
open Go.RowKit Go.ChangeShapes Go.WideShapes Go.ChangeAt
open Go.WideMaps Go.WideElems
set_option linter.unusedVariables false

def ProcIn (W : World) (v : Value) (p : Pr) : Prop := ∃ u, v = .agg #[.int .i64 p.turns, u, .int .i64 p.setup, .int .i64 p.unit, .int .i64 p.hold, .int .i64 p.back] ∧ IntsIn W u p.w
set_option maxRecDepth 100000 in
theorem open_process {H : Type} {enc : TypeId × Value → H} {W : World} {base : Nat} {v : Value} {d : DataW H} {ps : List MemPlace}
    (hval : Value.okWide Try.prog W .any base 57 v) (h : DataW.Trod enc Try.prog W 0 (fun _ => true) true 57 v d ps) : ∃ p, ProcIn W v p := by
  simp only [Value.okWide, Try.underlying57] at hval
  obtain ⟨cs, rfl, hsz, _⟩ := hval
  have hsz6 : cs.size = 6 := hsz.trans (by kernel_rfl)
  obtain ⟨fuel, hf⟩ := h
  obtain ⟨xs, n, _, _, _, hlen, hfield⟩ := DataW.trod_struct Try.underlying57 hf
  obtain ⟨a, b, c, d, e, f, rfl⟩ : ∃ a b c d e f, cs = #[a, b, c, d, e, f] := by
    obtain ⟨l⟩ := cs
    match l, hsz6 with
    | [a, b, c, d, e, f], _ => exact ⟨a, b, c, d, e, f, rfl⟩
  have hci : Try.prog.cellsOf 3 = 1 := by kernel_rfl
  have hcs : Try.prog.cellsOf 24 = 1 := by kernel_rfl
  match xs, hlen with
  | [y0, y1, y2, y3, y4, y5], _ =>
    obtain ⟨z0, k0, _⟩ := int_trod (cs := [a]) (by simpa [Value.cells, hci] using hfield 0 _ rfl)
    obtain ⟨u1, l1, k1, h1⟩ := ints_trod (cs := [b]) (by simpa [Value.cells, hcs] using hfield 1 _ rfl)
    obtain ⟨z2, k2, _⟩ := int_trod (cs := [c]) (by simpa [Value.cells, hci] using hfield 2 _ rfl)
    obtain ⟨z3, k3, _⟩ := int_trod (cs := [d]) (by simpa [Value.cells, hci] using hfield 3 _ rfl)
    obtain ⟨z4, k4, _⟩ := int_trod (cs := [e]) (by simpa [Value.cells, hci] using hfield 4 _ rfl)
    obtain ⟨z5, k5, _⟩ := int_trod (cs := [f]) (by simpa [Value.cells, hci] using hfield 5 _ rfl)
    cases k0; cases k1; cases k2; cases k3; cases k4; cases k5
    exact ⟨⟨z0, l1, z2, z3, z4, z5⟩, _, rfl, h1⟩
end Go.Proofs.Ytddnedngjijpoaa
