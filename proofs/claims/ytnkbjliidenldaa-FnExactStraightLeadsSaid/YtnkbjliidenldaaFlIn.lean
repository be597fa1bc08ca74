/- Flows, rules and parcels that came in, as arguments of the laws. -/
import Derived.Test.YtnkbjliidenldaaTabIn
import Derived.Test.YtnkbjliidenldaaFlMath
namespace Go.Proofs.Ytnkbjliidenldaa
open Go.RowKit Go.ChangeShapes Go.WideShapes Go.ChangeAt
open Go.WideMaps Go.WideElems
set_option linter.unusedVariables false

def FlIn (W : World) (v : Value) (s : Fl) : Prop := ∃ a, v = .agg #[.int .i64 s.stock, a] ∧ IntsIn W a s.under
set_option maxRecDepth 100000 in
theorem open_flow {H : Type} {enc : TypeId × Value → H} {W : World} {base : Nat} {v : Value} {d : DataW H} {ps : List MemPlace}
    (hval : Value.okWide Try.prog W .any base 24 v) (h : DataW.Trod enc Try.prog W 0 (fun _ => true) true 24 v d ps) : ∃ c, FlIn W v c := by
  simp only [Value.okWide, Try.underlying24] at hval
  obtain ⟨cs, rfl, hsz, _⟩ := hval
  have hsz2 : cs.size = 2 := hsz.trans (by kernel_rfl)
  obtain ⟨fuel, hf⟩ := h
  obtain ⟨xs, n, _, _, _, hlen, hfield⟩ := DataW.trod_struct Try.underlying24 hf
  obtain ⟨a, b, rfl⟩ : ∃ a b, cs = #[a, b] := by
    obtain ⟨l⟩ := cs
    match l, hsz2 with
    | [a, b], _ => exact ⟨a, b, rfl⟩
  have hci : Try.prog.cellsOf 3 = 1 := by kernel_rfl
  have hcs : Try.prog.cellsOf 22 = 1 := by kernel_rfl
  match xs, hlen with
  | [y0, y1], _ =>
    obtain ⟨z0, k0, _⟩ := int_trod (cs := [a]) (by simpa [Value.cells, hci] using hfield 0 _ rfl)
    obtain ⟨u1, l1, k1, h1⟩ := ints_trod (cs := [b]) (by simpa [Value.cells, hcs] using hfield 1 _ rfl)
    cases k0; cases k1
    exact ⟨⟨z0, l1⟩, _, rfl, h1⟩
def RlIn (W : World) (v : Value) (x : Rl) : Prop := v = .agg #[.int .i64 x.kind, .int .i64 x.low, .int .i64 x.high]
set_option maxRecDepth 100000 in
theorem rule_trod {H : Type} {enc : TypeId × Value → H} {W : World} {n : Nat} {cs : List Value} {x : DataW H × List MemPlace} (hl : cs.length = 3) (h : DataW.trod enc Try.prog W 0 (fun _ => true) true n 38 cs = some x) : ∃ p : Rl, cs = [.int .i64 p.kind, .int .i64 p.low, .int .i64 p.high] := by
  obtain ⟨xs, m, _, _, _, hlen, hfield⟩ := DataW.trod_struct Try.underlying38 h
  have hci : Try.prog.cellsOf 3 = 1 := by kernel_rfl
  match cs, hl with
  | [a, b, c], _ =>
    match xs, hlen with
    | [y0, y1, y2], _ =>
      obtain ⟨z0, k0, _⟩ := int_trod (cs := [a]) (by simpa [hci] using hfield 0 _ rfl)
      obtain ⟨z1, k1, _⟩ := int_trod (cs := [b]) (by simpa [hci] using hfield 1 _ rfl)
      obtain ⟨z2, k2, _⟩ := int_trod (cs := [c]) (by simpa [hci] using hfield 2 _ rfl)
      cases k0; cases k1; cases k2
      exact ⟨⟨z0, z1, z2⟩, rfl⟩
set_option maxRecDepth 100000 in
theorem open_rule {H : Type} {enc : TypeId × Value → H} {W : World} {base : Nat} {v : Value} {d : DataW H} {ps : List MemPlace}
    (hval : Value.okWide Try.prog W .any base 38 v) (h : DataW.Trod enc Try.prog W 0 (fun _ => true) true 38 v d ps) : ∃ x, RlIn W v x := by
  simp only [Value.okWide, Try.underlying38] at hval
  obtain ⟨cs, rfl, hsz, _⟩ := hval
  have hsz3 : cs.size = 3 := hsz.trans (by kernel_rfl)
  obtain ⟨fuel, hf⟩ := h
  obtain ⟨p, hp⟩ := rule_trod (cs := cs.toList) (by simpa using hsz3) (by simpa [Value.cells] using hf)
  exact ⟨p, by unfold RlIn; rw [← Array.toArray_toList (xs := cs), hp]⟩
def Pc0 : Pc := ⟨0, 0, 0⟩
def pcC (x : Pc) : List Value := [.int .i64 x.day, .int .i64 x.amount, .int .i64 x.lead]
def pcsC (L : List Pc) : List Value := (L.map pcC).flatten
theorem pcsC_len (L : List Pc) : (pcsC L).length = L.length * 3 := by
  induction L with
  | nil => rfl
  | cons p L ih => simp only [pcsC, List.map_cons, List.flatten_cons, List.length_append, List.length_cons] at ih ⊢; rw [ih]; simp [pcC]; omega
theorem pcsC_at : ∀ (L : List Pc) (k i : Nat), k < L.length → i < 3 → (pcsC L)[k * 3 + i]? = (pcC (L.getD k Pc0))[i]?
  | p :: L, 0, i, _, hi => by
    simp only [pcsC, List.map_cons, List.flatten_cons, Nat.zero_mul, Nat.zero_add, List.getD_cons_zero]
    rw [List.getElem?_append_left (by simp [pcC]; omega)]
  | p :: L, k + 1, i, h, hi => by
    have ih := pcsC_at L k i (by simpa using h) hi
    simp only [pcsC, List.map_cons, List.flatten_cons, List.getD_cons_succ] at ih ⊢
    rw [List.getElem?_append_right (by simp [pcC]; omega), ← ih]
    congr 1
    simp [pcC]; omega
  | [], k, i, h, _ => absurd h (by simp)
theorem pcsC_ext {L : List Pc} {cs : List Value} (hl : cs.length = L.length * 3) (h : ∀ k i, k < L.length → i < 3 → cs[k * 3 + i]? = (pcC (L.getD k Pc0))[i]?) : cs = pcsC L := by
  apply List.ext_getElem?
  intro i
  by_cases hi : i < L.length * 3
  · have p := pcsC_at L (i / 3) (i % 3) (by omega) (by omega)
    have q := h (i / 3) (i % 3) (by omega) (by omega)
    have ei : i / 3 * 3 + i % 3 = i := by omega
    rw [ei] at p q
    rw [p, q]
  · rw [List.getElem?_eq_none (by omega), List.getElem?_eq_none (by rw [pcsC_len]; omega)]
def PcsIn (W : World) (v : Value) (L : List Pc) : Prop := FlatIn W v L.length (pcsC L)
set_option maxRecDepth 100000 in
theorem parcel_trod {H : Type} {enc : TypeId × Value → H} {W : World} {n : Nat} {cs : List Value} {x : DataW H × List MemPlace} (hl : cs.length = 3) (h : DataW.trod enc Try.prog W 0 (fun _ => true) true n 115 cs = some x) : ∃ p : Pc, cs = pcC p := by
  obtain ⟨xs, m, _, _, _, hlen, hfield⟩ := DataW.trod_struct Try.underlying115 h
  have hci : Try.prog.cellsOf 3 = 1 := by kernel_rfl
  match cs, hl with
  | [a, b, c], _ =>
    match xs, hlen with
    | [y0, y1, y2], _ =>
      obtain ⟨z0, k0, _⟩ := int_trod (cs := [a]) (by simpa [hci] using hfield 0 _ rfl)
      obtain ⟨z1, k1, _⟩ := int_trod (cs := [b]) (by simpa [hci] using hfield 1 _ rfl)
      obtain ⟨z2, k2, _⟩ := int_trod (cs := [c]) (by simpa [hci] using hfield 2 _ rfl)
      cases k0; cases k1; cases k2
      exact ⟨⟨z0, z1, z2⟩, rfl⟩
set_option maxRecDepth 100000 in
theorem open_parcels {H : Type} {enc : TypeId × Value → H} {W : World} {base : Nat} {v : Value} {d : DataW H} {ps : List MemPlace}
    (hval : Value.okWide Try.prog W .any base 63 v) (h : DataW.Trod enc Try.prog W 0 (fun _ => true) true 63 v d ps) : ∃ L, PcsIn W v L := by
  obtain ⟨a0, len0, cap, rfl⟩ := okWide_slice Try.underlying63 hval
  obtain ⟨fuel, hf⟩ := h
  obtain ⟨A, len, c, hv, h1, h2, h3⟩ := flat_trod (sz := 3) Try.underlying63 (by kernel_rfl) ⟨_, _, _, rfl⟩ hf
  obtain ⟨L, hL, hat⟩ := list_of Pc0 (n := len) (P := fun i q => ∃ a, A = some a ∧ ∀ j, j < 3 → W.cell? (a.add (i * 3 + j)) = (pcC q)[j]?) fun i hi => by
    obtain ⟨cs, m, y, a, ha, hl, hy, hc⟩ := h3 i hi
    obtain ⟨p, rfl⟩ := parcel_trod hl hy
    exact ⟨p, a, ha, fun j hj => by
      have := hc j hj
      rw [this]⟩
  refine ⟨L, A, c, by rw [hL, hv], by rw [hL]; exact h1, h2, rd_of' fun i u hu => ?_⟩
  have hi := (List.getElem?_eq_some_iff.1 hu).1
  rw [pcsC_len, hL] at hi
  obtain ⟨a, ha, g0⟩ := hat (i / 3) (by omega)
  have p := pcsC_at L (i / 3) (i % 3) (by omega) (by omega)
  have g := g0 (i % 3) (by omega)
  have ei : i / 3 * 3 + i % 3 = i := by omega
  rw [ei] at p g
  refine ⟨a, ha, ?_⟩
  rw [g, ← p, hu]
end Go.Proofs.Ytnkbjliidenldaa
