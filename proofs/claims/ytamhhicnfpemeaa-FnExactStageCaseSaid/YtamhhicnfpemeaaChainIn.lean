/- Chains that came in, as arguments. -/
import Derived.Test.YtamhhicnfpemeaaTabIn
import Derived.Test.YtamhhicnfpemeaaChainMath
namespace Go.Proofs.Ytamhhicnfpemeaa
open Go.RowKit Go.ChangeShapes Go.WideShapes Go.ChangeAt
open Go.WideMaps Go.WideElems
set_option linter.unusedVariables false

def ChainIn (W : World) (v : Value) (c : Ch) : Prop := ∃ a b d, v = .agg #[a, b, d] ∧ IntsIn W a c.need ∧ IntsIn W b c.setup ∧ IntsIn W d c.hold
set_option maxRecDepth 100000 in
theorem open_chain {H : Type} {enc : TypeId × Value → H} {W : World} {base : Nat} {v : Value} {d : DataW H} {ps : List MemPlace}
    (hval : Value.okWide Try.prog W .any base 41 v) (h : DataW.Trod enc Try.prog W 0 (fun _ => true) true 41 v d ps) : ∃ c, ChainIn W v c := by
  simp only [Value.okWide, Try.underlying41] at hval
  obtain ⟨cs, rfl, hsz, _⟩ := hval
  have hsz3 : cs.size = 3 := hsz.trans (by kernel_rfl)
  obtain ⟨fuel, hf⟩ := h
  obtain ⟨xs, n, _, _, _, hlen, hfield⟩ := DataW.trod_struct Try.underlying41 hf
  obtain ⟨a, b, c, rfl⟩ : ∃ a b c, cs = #[a, b, c] := by
    obtain ⟨l⟩ := cs
    match l, hsz3 with
    | [a, b, c], _ => exact ⟨a, b, c, rfl⟩
  have hcs : Try.prog.cellsOf 24 = 1 := by kernel_rfl
  match xs, hlen with
  | [y0, y1, y2], _ =>
    obtain ⟨u0, l0, k0, h0⟩ := ints_trod (cs := [a]) (by simpa [Value.cells, hcs] using hfield 0 _ rfl)
    obtain ⟨u1, l1, k1, h1⟩ := ints_trod (cs := [b]) (by simpa [Value.cells, hcs] using hfield 1 _ rfl)
    obtain ⟨u2, l2, k2, h2⟩ := ints_trod (cs := [c]) (by simpa [Value.cells, hcs] using hfield 2 _ rfl)
    cases k0; cases k1; cases k2
    exact ⟨⟨l0, l1, l2⟩, _, _, _, rfl, h0, h1, h2⟩
end Go.Proofs.Ytamhhicnfpemeaa
