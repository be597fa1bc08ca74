/- Markets and contracts that came in, as arguments. -/
import Derived.Test.YtdcheilmjooacaaTabIn
import Derived.Test.YtdcheilmjooacaaMkMath
namespace Go.Proofs.Ytdcheilmjooacaa
open Go.RowKit Go.ChangeShapes Go.WideShapes Go.ChangeAt
open Go.WideMaps Go.WideElems
set_option linter.unusedVariables false

def MkIn (W : World) (v : Value) (s : Mk) : Prop := ∃ a, v = .agg #[a, .int .i64 s.price, .int .i64 s.make, .int .i64 s.left] ∧ IntsIn W a s.w
set_option maxRecDepth 100000 in
theorem open_market {H : Type} {enc : TypeId × Value → H} {W : World} {base : Nat} {v : Value} {d : DataW H} {ps : List MemPlace}
    (hval : Value.okWide Try.prog W .any base 24 v) (h : DataW.Trod enc Try.prog W 0 (fun _ => true) true 24 v d ps) : ∃ c, MkIn W v c := by
  simp only [Value.okWide, Try.underlying24] at hval
  obtain ⟨cs, rfl, hsz, _⟩ := hval
  have hsz4 : cs.size = 4 := hsz.trans (by kernel_rfl)
  obtain ⟨fuel, hf⟩ := h
  obtain ⟨xs, n, _, _, _, hlen, hfield⟩ := DataW.trod_struct Try.underlying24 hf
  obtain ⟨a, b, c, d, rfl⟩ : ∃ a b c d, cs = #[a, b, c, d] := by
    obtain ⟨l⟩ := cs
    match l, hsz4 with
    | [a, b, c, d], _ => exact ⟨a, b, c, d, rfl⟩
  have hci : Try.prog.cellsOf 3 = 1 := by kernel_rfl
  have hcs : Try.prog.cellsOf 22 = 1 := by kernel_rfl
  match xs, hlen with
  | [y0, y1, y2, y3], _ =>
    obtain ⟨u0, l0, k0, h0⟩ := ints_trod (cs := [a]) (by simpa [Value.cells, hcs] using hfield 0 _ rfl)
    obtain ⟨z1, k1, _⟩ := int_trod (cs := [b]) (by simpa [Value.cells, hci] using hfield 1 _ rfl)
    obtain ⟨z2, k2, _⟩ := int_trod (cs := [c]) (by simpa [Value.cells, hci] using hfield 2 _ rfl)
    obtain ⟨z3, k3, _⟩ := int_trod (cs := [d]) (by simpa [Value.cells, hci] using hfield 3 _ rfl)
    cases k0; cases k1; cases k2; cases k3
    exact ⟨⟨l0, z1, z2, z3⟩, _, rfl, h0⟩
def CtIn (W : World) (v : Value) (x : Ct) : Prop := v = .agg #[.int .i64 x.pay, .int .i64 x.back, .int .i64 x.share]
set_option maxRecDepth 100000 in
theorem contract_trod {H : Type} {enc : TypeId × Value → H} {W : World} {n : Nat} {cs : List Value} {x : DataW H × List MemPlace} (hl : cs.length = 3) (h : DataW.trod enc Try.prog W 0 (fun _ => true) true n 32 cs = some x) : ∃ p : Ct, cs = [.int .i64 p.pay, .int .i64 p.back, .int .i64 p.share] := by
  obtain ⟨xs, m, _, _, _, hlen, hfield⟩ := DataW.trod_struct Try.underlying32 h
  have hci : Try.prog.cellsOf 3 = 1 := by kernel_rfl
  match cs, hl with
  | [a, b, c], _ =>
    match xs, hlen with
    | [y0, y1, y2], _ =>
      obtain ⟨z0, k0, _⟩ := int_trod (cs := [a]) (by simpa [hci] using hfield 0 _ rfl)
      obtain ⟨z1, k1, _⟩ := int_trod (cs := [b]) (by simpa [hci] using hfield 1 _ rfl)
      obtain ⟨z2, k2, _⟩ := int_trod (cs := [c]) (by simpa [hci] using hfield 2 _ rfl)
      cases k0; cases k1; cases k2
      exact ⟨⟨z0, z1, z2⟩, rfl⟩
set_option maxRecDepth 100000 in
theorem open_contract {H : Type} {enc : TypeId × Value → H} {W : World} {base : Nat} {v : Value} {d : DataW H} {ps : List MemPlace}
    (hval : Value.okWide Try.prog W .any base 32 v) (h : DataW.Trod enc Try.prog W 0 (fun _ => true) true 32 v d ps) : ∃ x, CtIn W v x := by
  simp only [Value.okWide, Try.underlying32] at hval
  obtain ⟨cs, rfl, hsz, _⟩ := hval
  have hsz3 : cs.size = 3 := hsz.trans (by kernel_rfl)
  obtain ⟨fuel, hf⟩ := h
  obtain ⟨p, hp⟩ := contract_trod (cs := cs.toList) (by simpa using hsz3) (by simpa [Value.cells] using hf)
  exact ⟨p, by unfold CtIn; rw [← Array.toArray_toList (xs := cs), hp]⟩
end Go.Proofs.Ytdcheilmjooacaa
