/- Arguments of other kinds that came in: pairs, tables, structs of numbers and slices. -/
import Derived.Test.YtnkbjliidenldaaCaseIn
import Derived.Deep.Slices
namespace Go.Proofs.Ytnkbjliidenldaa
open Go.RowKit Go.ChangeShapes Go.WideShapes Go.ChangeAt
open Go.WideMaps Go.WideElems
set_option linter.unusedVariables false

/-- A slice whose cells read so, n elements. -/
def FlatIn (W : World) (v : Value) (n : Nat) (cs : List Value) : Prop := ∃ A c, v = .slice A n c ∧ n ≤ c ∧ c ≤ maxLen ∧ Rd W W.heap.size A cs
/-- Rows of rows. -/
def TabIn (W : World) (v : Value) (T : List (List Int)) : Prop :=
  ∃ us, FlatIn W v T.length us ∧ us.length = T.length ∧ ∀ k u, us[k]? = some u → IntsIn W u (T.getD k [])

section
variable {H : Type} {enc : TypeId × Value → H} {W : World}
set_option maxRecDepth 100000 in
theorem ints_trod {n : Nat} {cs : List Value} {x : DataW H × List MemPlace} (h : DataW.trod enc Try.prog W 0 (fun _ => true) true n 22 cs = some x) :
    ∃ u l, cs = [u] ∧ IntsIn W u l := by
  rcases Go.ChangeShapes.open_ints Try.underlying22 Try.underlying3 (by kernel_rfl) h with ⟨rfl, _⟩ | ⟨a, len, cap, zs, rfl, _, hl, hm, hz, _, hcell, hwf⟩
  · exact ⟨_, [], rfl, none, 0, rfl, Nat.le_refl _, Nat.zero_le _, Rd.nil _ _ _⟩
  · simp only [if_true] at hz
    have hlen : (zs.take len).length = len := by rw [List.length_take]; omega
    refine ⟨_, zs.take len, rfl, some a, cap, by rw [hlen], by rw [hlen]; exact hl, hm, rd_of fun i u hu => ?_⟩
    rw [List.getElem?_map, List.getElem?_take] at hu
    by_cases hi : i < len
    · rw [if_pos hi] at hu
      have hi2 : i < zs.length := by omega
      rw [hcell i hi2]
      rw [List.getElem?_eq_getElem hi2] at hu
      rw [List.getD_eq_getElem?_getD, List.getElem?_eq_getElem hi2]
      simpa using hu
    · rw [if_neg hi] at hu; cases hu
set_option maxRecDepth 100000 in
theorem int_trod {n : Nat} {cs : List Value} {x : DataW H × List MemPlace} (h : DataW.trod enc Try.prog W 0 (fun _ => true) true n 3 cs = some x) :
    ∃ z, cs = [.int .i64 z] ∧ (Lit.int .i64 z).wf = true := by
  obtain ⟨z, h1, _, h2⟩ := DataW.trod_int Try.underlying3 h
  exact ⟨z, h1, h2⟩
theorem one_of_cells {v u : Value} (h : v.cells.toList = [u]) (hc : ∀ a, v ≠ .agg a) : v = u := by
  cases v with
  | agg a => exact absurd rfl (hc a)
  | _ => simpa [Value.cells] using h
theorem agg_inj_list {cs : Array Value} {l : List Value} (h : cs.toList = l) : Value.agg cs = .agg l.toArray := by
  rw [← h]
theorem slice_cells {v : Value} {A : Option Addr} {n c : Nat} {e : TypeId} (hv : ∃ a l c', v = .slice a l c') (h : v.cells.toList = [.slice A n c]) : v = .slice A n c := by
  obtain ⟨a, l, c', rfl⟩ := hv
  simpa [Value.cells] using h

/-- A slice, cell by cell. -/
theorem flat_trod {n sz : Nat} {t e : TypeId} {v : Value} {x : DataW H × List MemPlace} (ht : Try.prog.underlying t = some (.slice e)) (hc : Try.prog.cellsOf e = sz) (hv : ∃ a l c', v = .slice a l c')
    (h : DataW.trod enc Try.prog W 0 (fun _ => true) true n t v.cells.toList = some x) :
    ∃ (A : Option Addr) (len c : Nat), v = .slice A len c ∧ len ≤ c ∧ c ≤ maxLen ∧ ∀ i, i < len → ∃ cs m y a, A = some a ∧ cs.length = sz ∧ DataW.trod enc Try.prog W 0 (fun _ => true) true m e cs = some y ∧ ∀ j, j < sz → W.cell? (a.add (i * sz + j)) = cs[j]? := by
  obtain ⟨a0, l0, c0, rfl⟩ := hv
  rcases Go.Deep.open_slice ht h with ⟨h0, _⟩ | ⟨a, len, cap, m, n', D, Pl, h0, _, hl, hm, hmm, _, hcell⟩
  · simp [Value.cells] at h0
    obtain ⟨rfl, rfl, rfl⟩ := h0
    exact ⟨none, 0, 0, rfl, Nat.le_refl _, Nat.zero_le _, fun i hi => absurd hi (by omega)⟩
  · simp [Value.cells] at h0
    obtain ⟨rfl, rfl, rfl⟩ := h0
    simp only [if_true] at hmm
    refine ⟨some a, _, _, rfl, hl, hm, fun i hi => ?_⟩
    obtain ⟨cs, h1, h2⟩ := hcell i (by omega)
    obtain ⟨_, h3, h4⟩ := World.cells?_some h1
    rw [hc] at h3 h4
    refine ⟨cs, n', _, a, rfl, h3, h2, fun j hj => ?_⟩
    have := h4 j hj
    rwa [Addr.add_add] at this
theorem rd_of' {A : Option Addr} {xs : List Value} (h : ∀ (i : Nat) (u : Value), xs[i]? = some u → ∃ a, A = some a ∧ W.cell? (a.add i) = some u) : Rd W W.heap.size A xs := by
  intro hl
  obtain ⟨a, rfl, _⟩ := h 0 _ (List.getElem?_eq_getElem hl)
  exact rd_of (a := a) (fun i u hu => by obtain ⟨a', e, h'⟩ := h i u hu; cases e; exact h') hl
/-- n facts in a row, as a list. -/
theorem list_of {α : Type} (d : α) {n : Nat} {P : Nat → α → Prop} (h : ∀ i, i < n → ∃ x, P i x) : ∃ l : List α, l.length = n ∧ ∀ i, i < n → P i (l.getD i d) := by
  induction n with
  | zero => exact ⟨[], rfl, fun i hi => absurd hi (by omega)⟩
  | succ n ih =>
    obtain ⟨l, h1, h2⟩ := ih fun i hi => h i (by omega)
    obtain ⟨x, hx⟩ := h n (by omega)
    refine ⟨l ++ [x], by simp [h1], fun i hi => ?_⟩
    by_cases e : i < n
    · have := h2 i e
      rwa [List.getD_eq_getElem?_getD, List.getElem?_append_left (by omega), ← List.getD_eq_getElem?_getD]
    · have : i = n := by omega
      subst this
      rw [List.getD_eq_getElem?_getD, List.getElem?_append_right (by omega), h1]
      simpa using hx
def pairC (p : Int × Int) : List Value := [.int .i64 p.1, .int .i64 p.2]
def pairsC (L : List (Int × Int)) : List Value := (L.map pairC).flatten
theorem pairsC_len (L : List (Int × Int)) : (pairsC L).length = L.length * 2 := by
  induction L with
  | nil => rfl
  | cons p L ih => simp only [pairsC, List.map_cons, List.flatten_cons, List.length_append, List.length_cons] at ih ⊢; rw [ih]; simp [pairC]; omega
theorem pairsC_app (L K : List (Int × Int)) : pairsC (L ++ K) = pairsC L ++ pairsC K := by simp [pairsC]
theorem pairsC_at : ∀ (L : List (Int × Int)) (k : Nat), k < L.length → (pairsC L)[k * 2]? = some (.int .i64 (L.getD k (0, 0)).1) ∧ (pairsC L)[k * 2 + 1]? = some (.int .i64 (L.getD k (0, 0)).2)
  | p :: L, 0, _ => ⟨rfl, rfl⟩
  | p :: L, k + 1, h => by
    have ih := pairsC_at L k (by simpa using h)
    have e1 : (k + 1) * 2 = k * 2 + 1 + 1 := by omega
    rw [e1]
    exact ⟨ih.1, ih.2⟩
  | [], k, h => absurd h (by simp)
def PairsIn (W : World) (v : Value) (L : List (Int × Int)) : Prop := FlatIn W v L.length (pairsC L)
set_option maxRecDepth 100000 in
theorem pairs_trod {n : Nat} {v : Value} {x : DataW H × List MemPlace} (hv : ∃ a l c', v = .slice a l c') (h : DataW.trod enc Try.prog W 0 (fun _ => true) true n 71 v.cells.toList = some x) : ∃ L, PairsIn W v L := by
  obtain ⟨A, len, c, rfl, h1, h2, h3⟩ := flat_trod (sz := 2) Try.underlying71 (by kernel_rfl) hv h
  obtain ⟨L, hL, hat⟩ := list_of (0, 0) (n := len) (P := fun i q => ∃ a, A = some a ∧ W.cell? (a.add (i * 2)) = some (.int .i64 q.1) ∧ W.cell? (a.add (i * 2 + 1)) = some (.int .i64 q.2)) fun i hi => by
    obtain ⟨cs, m, y, a, ha, hl, hy, hc⟩ := h3 i hi
    obtain ⟨xs, m', _, _, _, _, hel⟩ := DataW.trod_array Try.underlying117 hy
    have hone : Try.prog.cellsOf 3 = 1 := by kernel_rfl
    match cs, hl with
    | [c0, c1], _ =>
      have g0 := hel 0 (by decide)
      have g1 := hel 1 (by decide)
      rw [hone] at g0 g1
      have two : ∀ j, j < 2 → ∃ y, xs[j]? = some y := fun j hj => ⟨_, List.getElem?_eq_getElem (by omega)⟩
      obtain ⟨y0, e0⟩ := two 0 (by decide)
      obtain ⟨y1, e1⟩ := two 1 (by decide)
      rw [e0] at g0
      rw [e1] at g1
      obtain ⟨z0, k0, _⟩ := int_trod g0
      obtain ⟨z1, k1, _⟩ := int_trod g1
      simp at k0 k1
      subst k0 k1
      exact ⟨(z0, z1), a, ha, by simpa using hc 0 (by decide), hc 1 (by decide)⟩
  refine ⟨L, A, c, by rw [hL], by rw [hL]; exact h1, h2, rd_of' fun i u hu => ?_⟩
  have hi := (List.getElem?_eq_some_iff.1 hu).1
  rw [pairsC_len, hL] at hi
  obtain ⟨a, ha, g0, g1⟩ := hat (i / 2) (by omega)
  have p := pairsC_at L (i / 2) (by omega)
  have ei : i = i / 2 * 2 ∨ i = i / 2 * 2 + 1 := by omega
  refine ⟨a, ha, ?_⟩
  rcases ei with ei | ei
  · rw [← ei] at p g0
    rw [p.1] at hu; cases hu; exact g0
  · rw [← ei] at p g1
    rw [p.2] at hu; cases hu; exact g1
set_option maxRecDepth 100000 in
theorem table_trod {n : Nat} {v : Value} {x : DataW H × List MemPlace} (hv : ∃ a l c', v = .slice a l c') (h : DataW.trod enc Try.prog W 0 (fun _ => true) true n 127 v.cells.toList = some x) : ∃ T, TabIn W v T := by
  obtain ⟨A, len, c, rfl, h1, h2, h3⟩ := flat_trod (sz := 1) Try.underlying127 (by kernel_rfl) hv h
  obtain ⟨us, hus, hat⟩ := list_of (α := Value × List Int) (.int .i64 0, []) (n := len) (P := fun i q => ∃ a, A = some a ∧ W.cell? (a.add i) = some q.1 ∧ IntsIn W q.1 q.2) fun i hi => by
    obtain ⟨cs, m, y, a, ha, hl, hy, hc⟩ := h3 i hi
    obtain ⟨u, l, rfl, hu⟩ := ints_trod hy
    have := hc 0 (by decide)
    exact ⟨(u, l), a, ha, by simpa using this, hu⟩
  refine ⟨us.map (·.2), us.map (·.1), ⟨A, c, by simp [hus], by simp [hus, h1], h2, rd_of' fun i u hu => ?_⟩, by simp, fun k u hu => ?_⟩
  · have hi := (List.getElem?_eq_some_iff.1 hu).1
    rw [List.length_map, hus] at hi
    obtain ⟨a, ha, g0, _⟩ := hat i hi
    refine ⟨a, ha, ?_⟩
    rw [List.getElem?_map, List.getElem?_eq_getElem (by omega)] at hu
    rw [List.getD_eq_getElem?_getD, List.getElem?_eq_getElem (by omega)] at g0
    rw [g0]; simpa using hu
  · have hi := (List.getElem?_eq_some_iff.1 hu).1
    rw [List.length_map, hus] at hi
    obtain ⟨a, ha, _, g1⟩ := hat k hi
    rw [List.getElem?_map, List.getElem?_eq_getElem (by omega)] at hu
    rw [List.getD_eq_getElem?_getD, List.getElem?_eq_getElem (by omega)] at g1
    rw [List.getD_eq_getElem?_getD, List.getElem?_map, List.getElem?_eq_getElem (by omega)]
    simp at hu g1 ⊢
    rw [← hu]; exact g1
set_option maxRecDepth 100000 in
theorem open_pairs {base : Nat} {v : Value} {d : DataW H} {ps : List MemPlace} (hval : Value.okWide Try.prog W .any base 71 v) (h : DataW.Trod enc Try.prog W 0 (fun _ => true) true 71 v d ps) : ∃ L, PairsIn W v L := by
  obtain ⟨a0, len, cap, rfl⟩ := okWide_slice Try.underlying71 hval
  obtain ⟨fuel, hf⟩ := h
  exact pairs_trod ⟨_, _, _, rfl⟩ hf
set_option maxRecDepth 100000 in
theorem open_table {base : Nat} {v : Value} {d : DataW H} {ps : List MemPlace} (hval : Value.okWide Try.prog W .any base 127 v) (h : DataW.Trod enc Try.prog W 0 (fun _ => true) true 127 v d ps) : ∃ T, TabIn W v T := by
  obtain ⟨a0, len, cap, rfl⟩ := okWide_slice Try.underlying127 hval
  obtain ⟨fuel, hf⟩ := h
  exact table_trod ⟨_, _, _, rfl⟩ hf
end
end Go.Proofs.Ytnkbjliidenldaa
