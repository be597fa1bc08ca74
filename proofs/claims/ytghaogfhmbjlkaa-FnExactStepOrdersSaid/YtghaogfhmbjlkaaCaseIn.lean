/- Cases in memory: four slices of numbers; a Case that came in, as an argument. -/
import Derived.Test.YtghaogfhmbjlkaaKept
import Derived.Test.YtghaogfhmbjlkaaLotMath
import Derived.Test.YtghaogfhmbjlkaaOpen
import Derived.Test.YtghaogfhmbjlkaaIntOpen
namespace Go.Proofs.Ytghaogfhmbjlkaa
open Go.RowKit Go.ChangeShapes Go.WideShapes Go.ChangeAt
open Go.WideMaps Go.WideElems
set_option linter.unusedVariables false

/-- A Case, somewhere. -/
def CaseIn (w : World) (v : Value) (k : Cs) : Prop :=
  ∃ v1 v2 v3 v4, v = .agg #[v1, v2, v3, v4] ∧ IntsIn w v1 k.need ∧ IntsIn w v2 k.setup ∧ IntsIn w v3 k.unit ∧ IntsIn w v4 k.hold
theorem CaseIn.below {w w' : World} {v : Value} {k : Cs} (h : CaseIn w v k) (hb : Below w.heap.size w w') : CaseIn w' v k := by
  obtain ⟨v1, v2, v3, v4, h0, h1, h2, h3, h4⟩ := h
  exact ⟨v1, v2, v3, v4, h0, h1.below hb, h2.below hb, h3.below hb, h4.below hb⟩
/-- A Case of its own, in blocks of the range lo..hi-1. -/
def OwnCase (w : World) (lo hi : Nat) (v : Value) (k : Cs) : Prop :=
  ∃ v1 v2 v3 v4 m1 m2 m3, v = .agg #[v1, v2, v3, v4] ∧ lo ≤ m1 ∧ m1 ≤ m2 ∧ m2 ≤ m3 ∧ m3 ≤ hi ∧ OwnInts w lo m1 v1 k.need ∧ OwnInts w m1 m2 v2 k.setup ∧ OwnInts w m2 m3 v3 k.unit ∧ OwnInts w m3 hi v4 k.hold
theorem OwnCase.ints {w : World} {lo hi : Nat} {v : Value} {k : Cs} (h : OwnCase w lo hi v k) : CaseIn w v k := by
  obtain ⟨v1, v2, v3, v4, m1, m2, m3, h0, _, _, _, _, h1, h2, h3, h4⟩ := h
  exact ⟨v1, v2, v3, v4, h0, h1.ints, h2.ints, h3.ints, h4.ints⟩
theorem OwnCase.kept {w w' : World} {lo hi lo' hi' : Nat} {v : Value} {k : Cs} (h : OwnCase w lo hi v k) (hk : Kept lo' hi' w w') (hd : hi ≤ lo' ∨ hi' ≤ lo) : OwnCase w' lo hi v k := by
  obtain ⟨v1, v2, v3, v4, m1, m2, m3, h0, a, b, c, d, h1, h2, h3, h4⟩ := h
  exact ⟨v1, v2, v3, v4, m1, m2, m3, h0, a, b, c, d, h1.kept hk (by omega), h2.kept hk (by omega), h3.kept hk (by omega), h4.kept hk (by omega)⟩
theorem OwnCase.below {w w' : World} {lo hi B : Nat} {v : Value} {k : Cs} (h : OwnCase w lo hi v k) (hb : Below B w w') (hd : hi ≤ B) : OwnCase w' lo hi v k := by
  obtain ⟨v1, v2, v3, v4, m1, m2, m3, h0, a, b, c, d, h1, h2, h3, h4⟩ := h
  exact ⟨v1, v2, v3, v4, m1, m2, m3, h0, a, b, c, d, h1.below hb (by omega), h2.below hb (by omega), h3.below hb (by omega), h4.below hb (by omega)⟩
theorem OwnCase.wider {w : World} {lo hi lo' hi' : Nat} {v : Value} {k : Cs} (h : OwnCase w lo hi v k) (e1 : lo' ≤ lo) (e2 : hi ≤ hi') : OwnCase w lo' hi' v k := by
  obtain ⟨v1, v2, v3, v4, m1, m2, m3, h0, a, b, c, d, h1, h2, h3, h4⟩ := h
  exact ⟨v1, v2, v3, v4, m1, m2, m3, h0, by omega, b, c, by omega, h1.wider e1 (Nat.le_refl _), h2, h3, h4.wider (Nat.le_refl _) e2⟩
theorem OwnCase.le {w : World} {lo hi : Nat} {v : Value} {k : Cs} (h : OwnCase w lo hi v k) : lo ≤ hi := by
  obtain ⟨v1, v2, v3, v4, m1, m2, m3, h0, a, b, c, d, _⟩ := h
  omega

theorem trod_of_cells {H : Type} {enc : TypeId × Value → H} {P : Program} {W : World} {t : TypeId} {v : Value} {n : Nat} {y : DataW H × List MemPlace} (hc : v.cells = #[v])
    (h : DataW.trod enc P W 0 (fun _ => true) true n t [v] = some y) : DataW.Trod enc P W 0 (fun _ => true) true t v y.1 y.2 :=
  ⟨n, by rw [hc]; exact h⟩

set_option maxRecDepth 100000 in
theorem open_ints_in {H : Type} {enc : TypeId × Value → H} {W : World} {base : Nat} {v : Value} {d : DataW H} {ps : List MemPlace}
    (hval : Value.okWide Try.prog W .any base 22 v) (h : DataW.Trod enc Try.prog W 0 (fun _ => true) true 22 v d ps) : ∃ l, IntsIn W v l ∧ ∀ n ∈ l, IntKind.min .i64 ≤ n ∧ n ≤ IntKind.max .i64 := by
  obtain ⟨A, l, c, rfl, hrd, hlc, hc, hwf⟩ := open_ints_rd Try.underlying22 Try.underlying3 (by kernel_rfl) hval h
  exact ⟨l, ⟨A, c, rfl, hlc, hc, hrd⟩, hwf⟩

set_option maxRecDepth 100000 in
theorem cellTypesCase : Try.prog.cellTypes Try.prog.depth 24 = some [22, 22, 22, 22] := by kernel_rfl

set_option maxRecDepth 100000 in
theorem open_case {H : Type} {enc : TypeId × Value → H} {W : World} {base : Nat} {v : Value} {d : DataW H} {ps : List MemPlace}
    (hval : Value.okWide Try.prog W .any base 24 v) (h : DataW.Trod enc Try.prog W 0 (fun _ => true) true 24 v d ps) : ∃ k, CaseIn W v k := by
  have hval2 := hval
  simp only [Value.okWide, Try.underlying24] at hval2
  obtain ⟨cs, rfl, hsz, ts, hts, _, hcell⟩ := hval2
  rw [cellTypesCase] at hts
  obtain rfl := Option.some.inj hts
  have hsz4 : cs.size = 4 := hsz.trans (by kernel_rfl)
  obtain ⟨fuel, hf⟩ := h
  obtain ⟨xs, n, _, _, _, hlen, hfield⟩ := DataW.trod_struct Try.underlying24 hf
  obtain ⟨v1, v2, v3, v4, rfl⟩ : ∃ v1 v2 v3 v4, cs = #[v1, v2, v3, v4] := by
    obtain ⟨l⟩ := cs
    match l, hsz4 with
    | [a, b, c, d], _ => exact ⟨a, b, c, d, rfl⟩
  have one : ∀ (i : Nat) (u : Value), #[v1, v2, v3, v4][i]? = some u → Value.okWide Try.prog W .any base 22 u := by
    intro i u hu
    obtain ⟨t, ht, hok⟩ := hcell i u hu
    have hi : i < 4 := by
      have := (Array.getElem?_eq_some_iff.1 hu).1
      simpa using this
    have : t = 22 := by
      have : i = 0 ∨ i = 1 ∨ i = 2 ∨ i = 3 := by omega
      rcases this with rfl | rfl | rfl | rfl <;> exact (Option.some.inj ht).symm
    subst this
    simp only [Value.okWide, Try.underlying22]
    exact hok
  have fin : ∀ (u : Value) (y : DataW H × List MemPlace), Value.okWide Try.prog W .any base 22 u → DataW.trod enc Try.prog W 0 (fun _ => true) true n 22 [u] = some y → ∃ l, IntsIn W u l := by
    intro u y hu hy
    obtain ⟨a0, len, cap, rfl⟩ := okWide_slice Try.underlying22 hu
    obtain ⟨l, hl, _⟩ := open_ints_in hu (trod_of_cells rfl hy)
    exact ⟨l, hl⟩
  have hcl : Try.prog.cellsOf 22 = 1 := by kernel_rfl
  match xs, hlen with
  | [y0, y1, y2, y3], _ =>
    obtain ⟨l1, h1⟩ := fin v1 y0 (one 0 v1 rfl) (by simpa [Value.cells, hcl] using hfield 0 _ rfl)
    obtain ⟨l2, h2⟩ := fin v2 y1 (one 1 v2 rfl) (by simpa [Value.cells, hcl] using hfield 1 _ rfl)
    obtain ⟨l3, h3⟩ := fin v3 y2 (one 2 v3 rfl) (by simpa [Value.cells, hcl] using hfield 2 _ rfl)
    obtain ⟨l4, h4⟩ := fin v4 y3 (one 3 v4 rfl) (by simpa [Value.cells, hcl] using hfield 3 _ rfl)
    exact ⟨⟨l1, l2, l3, l4⟩, v1, v2, v3, v4, rfl, h1, h2, h3, h4⟩
end Go.Proofs.Ytghaogfhmbjlkaa
