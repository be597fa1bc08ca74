/- Shelves that came in, as arguments. -/
import Derived.Test.YtihjcjhnkpkomaaTabIn
import Derived.Test.YtihjcjhnkpkomaaShMath
namespace Go.Proofs.Ytihjcjhnkpkomaa
open Go.RowKit Go.ChangeShapes Go.WideShapes Go.ChangeAt
open Go.WideMaps Go.WideElems
set_option linter.unusedVariables false

def ShIn (W : World) (v : Value) (s : Sh) : Prop := ∃ a b, v = .agg #[.int .i64 s.life, a, b, .int .i64 s.waste, .int .i64 s.lost] ∧ IntsIn W a s.arr ∧ IntsIn W b s.need
set_option maxRecDepth 100000 in
theorem open_shelf {H : Type} {enc : TypeId × Value → H} {W : World} {base : Nat} {v : Value} {d : DataW H} {ps : List MemPlace}
    (hval : Value.okWide Try.prog W .any base 24 v) (h : DataW.Trod enc Try.prog W 0 (fun _ => true) true 24 v d ps) : ∃ c, ShIn W v c := by
  simp only [Value.okWide, Try.underlying24] at hval
  obtain ⟨cs, rfl, hsz, _⟩ := hval
  have hsz5 : cs.size = 5 := hsz.trans (by kernel_rfl)
  obtain ⟨fuel, hf⟩ := h
  obtain ⟨xs, n, _, _, _, hlen, hfield⟩ := DataW.trod_struct Try.underlying24 hf
  obtain ⟨a, b, c, d, e, rfl⟩ : ∃ a b c d e, cs = #[a, b, c, d, e] := by
    obtain ⟨l⟩ := cs
    match l, hsz5 with
    | [a, b, c, d, e], _ => exact ⟨a, b, c, d, e, rfl⟩
  have hci : Try.prog.cellsOf 3 = 1 := by kernel_rfl
  have hcs : Try.prog.cellsOf 22 = 1 := by kernel_rfl
  match xs, hlen with
  | [y0, y1, y2, y3, y4], _ =>
    obtain ⟨z0, k0, _⟩ := int_trod (cs := [a]) (by simpa [Value.cells, hci] using hfield 0 _ rfl)
    obtain ⟨u1, l1, k1, h1⟩ := ints_trod (cs := [b]) (by simpa [Value.cells, hcs] using hfield 1 _ rfl)
    obtain ⟨u2, l2, k2, h2⟩ := ints_trod (cs := [c]) (by simpa [Value.cells, hcs] using hfield 2 _ rfl)
    obtain ⟨z3, k3, _⟩ := int_trod (cs := [d]) (by simpa [Value.cells, hci] using hfield 3 _ rfl)
    obtain ⟨z4, k4, _⟩ := int_trod (cs := [e]) (by simpa [Value.cells, hci] using hfield 4 _ rfl)
    cases k0; cases k1; cases k2; cases k3; cases k4
    exact ⟨⟨z0, l1, l2, z3, z4⟩, _, _, rfl, h1, h2⟩
end Go.Proofs.Ytihjcjhnkpkomaa
