/- Items that came in, as arguments: one, and lists of them. -/
import Derived.Test.YtmjnjhdacliieaaTabIn
import Derived.Test.YtmjnjhdacliieaaCycMath
namespace Go.Proofs.Ytmjnjhdacliieaa
open Go.RowKit Go.ChangeShapes Go.WideShapes Go.ChangeAt
open Go.WideMaps Go.WideElems
set_option linter.unusedVariables false

def It0 : It := ⟨0, 0, 0, 0, 0⟩
def itC (x : It) : List Value := [.int .i64 x.daily, .int .i64 x.setup, .int .i64 x.hold, .int .i64 x.made, .int .i64 x.pause]
def itemsC (L : List It) : List Value := (L.map itC).flatten
theorem itemsC_len (L : List It) : (itemsC L).length = L.length * 5 := by
  induction L with
  | nil => rfl
  | cons p L ih => simp only [itemsC, List.map_cons, List.flatten_cons, List.length_append, List.length_cons] at ih ⊢; rw [ih]; simp [itC]; omega
theorem itemsC_at : ∀ (L : List It) (k i : Nat), k < L.length → i < 5 → (itemsC L)[k * 5 + i]? = (itC (L.getD k It0))[i]?
  | p :: L, 0, i, _, hi => by
    simp only [itemsC, List.map_cons, List.flatten_cons, Nat.zero_mul, Nat.zero_add, List.getD_cons_zero]
    rw [List.getElem?_append_left (by simp [itC]; omega)]
  | p :: L, k + 1, i, h, hi => by
    have ih := itemsC_at L k i (by simpa using h) hi
    simp only [itemsC, List.map_cons, List.flatten_cons, List.getD_cons_succ] at ih ⊢
    rw [List.getElem?_append_right (by simp [itC]; omega), ← ih]
    congr 1
    simp [itC]; omega
  | [], k, i, h, _ => absurd h (by simp)
theorem itemsC_ext {L : List It} {cs : List Value} (hl : cs.length = L.length * 5) (h : ∀ k i, k < L.length → i < 5 → cs[k * 5 + i]? = (itC (L.getD k It0))[i]?) : cs = itemsC L := by
  apply List.ext_getElem?
  intro i
  by_cases hi : i < L.length * 5
  · have p := itemsC_at L (i / 5) (i % 5) (by omega) (by omega)
    have q := h (i / 5) (i % 5) (by omega) (by omega)
    have ei : i / 5 * 5 + i % 5 = i := by omega
    rw [ei] at p q
    rw [p, q]
  · rw [List.getElem?_eq_none (by omega), List.getElem?_eq_none (by rw [itemsC_len]; omega)]
def ItemIn (W : World) (v : Value) (x : It) : Prop := v = .agg #[.int .i64 x.daily, .int .i64 x.setup, .int .i64 x.hold, .int .i64 x.made, .int .i64 x.pause]
def ItemsIn (W : World) (v : Value) (L : List It) : Prop := FlatIn W v L.length (itemsC L)
set_option maxRecDepth 100000 in
theorem item_trod {H : Type} {enc : TypeId × Value → H} {W : World} {n : Nat} {cs : List Value} {x : DataW H × List MemPlace} (hl : cs.length = 5) (h : DataW.trod enc Try.prog W 0 (fun _ => true) true n 23 cs = some x) : ∃ p : It, cs = itC p := by
  obtain ⟨xs, m, _, _, _, hlen, hfield⟩ := DataW.trod_struct Try.underlying23 h
  have hci : Try.prog.cellsOf 3 = 1 := by kernel_rfl
  match cs, hl with
  | [a, b, c, d, e], _ =>
    match xs, hlen with
    | [y0, y1, y2, y3, y4], _ =>
      obtain ⟨z0, k0, _⟩ := int_trod (cs := [a]) (by simpa [hci] using hfield 0 _ rfl)
      obtain ⟨z1, k1, _⟩ := int_trod (cs := [b]) (by simpa [hci] using hfield 1 _ rfl)
      obtain ⟨z2, k2, _⟩ := int_trod (cs := [c]) (by simpa [hci] using hfield 2 _ rfl)
      obtain ⟨z3, k3, _⟩ := int_trod (cs := [d]) (by simpa [hci] using hfield 3 _ rfl)
      obtain ⟨z4, k4, _⟩ := int_trod (cs := [e]) (by simpa [hci] using hfield 4 _ rfl)
      cases k0; cases k1; cases k2; cases k3; cases k4
      exact ⟨⟨z0, z1, z2, z3, z4⟩, rfl⟩
set_option maxRecDepth 100000 in
theorem open_item {H : Type} {enc : TypeId × Value → H} {W : World} {base : Nat} {v : Value} {d : DataW H} {ps : List MemPlace}
    (hval : Value.okWide Try.prog W .any base 23 v) (h : DataW.Trod enc Try.prog W 0 (fun _ => true) true 23 v d ps) : ∃ x, ItemIn W v x := by
  simp only [Value.okWide, Try.underlying23] at hval
  obtain ⟨cs, rfl, hsz, _⟩ := hval
  have hsz5 : cs.size = 5 := hsz.trans (by kernel_rfl)
  obtain ⟨fuel, hf⟩ := h
  obtain ⟨p, hp⟩ := item_trod (cs := cs.toList) (by simpa using hsz5) (by simpa [Value.cells] using hf)
  exact ⟨p, by unfold ItemIn; rw [← Array.toArray_toList (xs := cs), hp]; rfl⟩
set_option maxRecDepth 100000 in
theorem open_items {H : Type} {enc : TypeId × Value → H} {W : World} {base : Nat} {v : Value} {d : DataW H} {ps : List MemPlace}
    (hval : Value.okWide Try.prog W .any base 35 v) (h : DataW.Trod enc Try.prog W 0 (fun _ => true) true 35 v d ps) : ∃ L, ItemsIn W v L := by
  obtain ⟨a0, len0, cap, rfl⟩ := okWide_slice Try.underlying35 hval
  obtain ⟨fuel, hf⟩ := h
  obtain ⟨A, len, c, hv, h1, h2, h3⟩ := flat_trod (sz := 5) Try.underlying35 (by kernel_rfl) ⟨_, _, _, rfl⟩ hf
  obtain ⟨L, hL, hat⟩ := list_of It0 (n := len) (P := fun i q => ∃ a, A = some a ∧ ∀ j, j < 5 → W.cell? (a.add (i * 5 + j)) = (itC q)[j]?) fun i hi => by
    obtain ⟨cs, m, y, a, ha, hl, hy, hc⟩ := h3 i hi
    obtain ⟨p, rfl⟩ := item_trod hl hy
    exact ⟨p, a, ha, fun j hj => by
      have := hc j hj
      rw [this]⟩
  refine ⟨L, A, c, by rw [hL, hv], by rw [hL]; exact h1, h2, rd_of' fun i u hu => ?_⟩
  have hi := (List.getElem?_eq_some_iff.1 hu).1
  rw [itemsC_len, hL] at hi
  obtain ⟨a, ha, g0⟩ := hat (i / 5) (by omega)
  have p := itemsC_at L (i / 5) (i % 5) (by omega) (by omega)
  have g := g0 (i % 5) (by omega)
  have ei : i / 5 * 5 + i % 5 = i := by omega
  rw [ei] at p g
  refine ⟨a, ha, ?_⟩
  rw [g, ← p, hu]
end Go.Proofs.Ytmjnjhdacliieaa
