/- From a law's abstract running to its call: the arguments that came in, as blocks only to be read; rows of numbers that persist. -/
import Derived.Test.YtnkbjliidenldaaAbCase
import Derived.Test.YtnkbjliidenldaaCaseIn
import Derived.Test.YtnkbjliidenldaaShell
namespace Go.Proofs.Ytnkbjliidenldaa.Ab
open Go Go.RowKit
set_option linter.unusedVariables false
set_option linter.unusedSimpArgs false

theorem tab_none {base : Nat} {W : World} (h : tabB = none) : TabOk base W := fun g vs hg => by rw [h] at hg; cases hg
theorem MRel.start (W : World) (ht : TabOk W.heap.size W := by exact tab_none rfl) : MRel W W.heap.size [] [] W :=
  ⟨rfl, Below.refl _ _, Nat.le_refl _, fun id e xs h => by simp at h, fun id e xs h => by simp at h, fun i j e1 e2 xs ys b1 o1 t1 b2 o2 t2 hij h => by simp at h, ⟨fun id e es h => by simp at h, fun i j e1 e2 xs ys b1 o1 t1 b2 o2 t2 hij h => by simp at h⟩, Oth.refl _, ht⟩
theorem MRel.addRo {W0 : World} {base : Nat} {ρ : Places} {m : Mem} {w : World} (h : MRel W0 base ρ m w) {e : TypeId} {xs : List Value} {b o tot : Nat}
    (hg : ∀ (k : Nat) (x : Value), xs[k]? = some x → b < base ∧ ∃ y, w.cell? ⟨b, o + k, none⟩ = some y ∧ VR ρ x y) : MRel W0 base (ρ ++ [(b, o, tot)]) (m ++ [⟨.ro, e, xs⟩]) w := by
  have hpre := pre_snoc ρ (b, o, tot)
  refine ⟨by simp [h.len], h.below, h.le, ?_, ?_, ?_, h.maps.step hpre (fun id e es hm => by
    rcases at_app hm with ⟨_, hm⟩ | ⟨_, he⟩
    · exact hm
    · cases he) fun _ _ _ _ h => h, h.oth, h.tab⟩
  · intro id e' xs' hm
    rcases at_app hm with ⟨hi, hm⟩ | ⟨hi, he⟩
    · obtain ⟨b', o', tot', hp, hc⟩ := h.ro id e' xs' hm
      exact ⟨b', o', tot', pre_at hpre hp, fun k x hx => by obtain ⟨h1, y, hy, hv⟩ := hc k x hx; exact ⟨h1, y, hy, hv.mono hpre⟩⟩
    · cases he
      exact ⟨b, o, tot, by rw [hi, ← h.len]; simp, fun k x hx => by obtain ⟨h1, y, hy, hv⟩ := hg k x hx; exact ⟨h1, y, hy, hv.mono hpre⟩⟩
  · intro id e' xs' hm
    rcases at_app hm with ⟨hi, hm⟩ | ⟨hi, he⟩
    · obtain ⟨b', tot', hp, hl, hc⟩ := h.own id e' xs' hm
      refine ⟨b', tot', pre_at hpre hp, hl, fun ht => ?_⟩
      obtain ⟨h1, cur', hg', hs, hcur⟩ := hc ht
      exact ⟨h1, cur', hg', hs, fun k x hx => by obtain ⟨y, hy, hv⟩ := hcur k x hx; exact ⟨y, hy, hv.mono hpre⟩⟩
    · cases he
  · intro i j e1 e2 xs1 xs2 b1 o1 t1 b2 o2 t2 hij h1 h2 hp1 hp2 ht1 ht2
    have old : ∀ (i : Nat) (p : Nat × Nat × Nat), i < m.length → (ρ ++ [(b, o, tot)])[i]? = some p → ρ[i]? = some p := by
      intro i p hi hp
      rw [List.getElem?_append_left (by rw [h.len]; exact hi)] at hp
      exact hp
    rcases at_app h1 with ⟨hi1, hm1⟩ | ⟨hi1, he1⟩
    · rcases at_app h2 with ⟨hi2, hm2⟩ | ⟨hi2, he2⟩
      · exact h.apart i j e1 e2 xs1 xs2 b1 o1 t1 b2 o2 t2 hij hm1 hm2 (old i _ hi1 hp1) (old j _ hi2 hp2) ht1 ht2
      · cases he2
    · cases he1
/-- A slice that came in. -/
theorem MRel.argInts {ρ : Places} {m : Mem} {W : World} (h : MRel W W.heap.size ρ m W) {v : Value} {l : List Int} (hi : IntsIn W v l) :
    ∃ p, MRel W W.heap.size (ρ ++ [p]) (m ++ [⟨.ro, 0, l.map (Value.int .i64)⟩]) W ∧ VR (ρ ++ [p]) (.slice (some ⟨m.length, 0, none⟩) l.length 0) v := by
  obtain ⟨A, c, rfl, hlc, hc, hr⟩ := hi
  by_cases hl : 0 < l.length
  · obtain ⟨b, off, rfl, hb, hcell⟩ := hr (by simpa using hl)
    refine ⟨(b, off, 0), h.addRo fun k x hx => ⟨hb, x, hcell k x hx, ?_⟩, ?_⟩
    · rw [List.getElem?_map] at hx
      cases hk : l[k]? with
      | none => rw [hk] at hx; cases hx
      | some z => rw [hk] at hx; cases hx; exact .int _ _
    · exact .sl (b := b) (o := off) (tot := 0) (by rw [← h.len]; simp) hlc hc (fun _ _ => by simp) (fun hf => absurd hf (by omega))
  · have hl0 : l = [] := List.eq_nil_of_length_eq_zero (by omega)
    subst hl0
    exact ⟨(0, 0, 0), h.addRo fun k x hx => by simp at hx, .sl (b := 0) (o := 0) (tot := 0) (by rw [← h.len]; simp) hlc hc (fun _ hp => absurd hp (by simp)) (fun hf => absurd hf (by omega))⟩
theorem IntsIn.bd {W : World} {v : Value} {l : List Int} (h : IntsIn W v l) : l.length ≤ 9223372036854775807 := by
  obtain ⟨A, c, _, h1, h2, _⟩ := h
  unfold maxLen at h2; omega
/-- A law that answers true. -/
theorem law_calls {P : Program} {f : FuncId} {xs : List Value} {m : Mem} {ρ : Places} {W : World} {cargs : List Value} (h : AC P f xs m fun v _ => v = .bool true) (hm : MRel W W.heap.size ρ m W) (hv : VL ρ xs cargs) :
    Calls P f cargs.toArray W fun e w' => e = .returned (.bool true) ∧ Below W.heap.size W w' := by
  refine (h.2 W W.heap.size ρ W cargs hm hv).mono ?_
  rintro e w' ⟨v, v', m', ρ', rfl, rfl, hp, hm', hvr⟩
  rw [hvr.bool_inv]
  exact ⟨rfl, hm'.below⟩

/-- A row of numbers that lies in memory. -/
def RowA (m : Mem) (id : Nat) (l : List Int) : Prop := l.length ≤ 9223372036854775807 ∧ ∃ kd e, kd ≠ Kd.dead ∧ m[id]? = some ⟨kd, e, l.map (Value.int .i64)⟩
theorem RowA.lt {m : Mem} {id : Nat} {l : List Int} (h : RowA m id l) : id < m.length := by
  obtain ⟨_, _, _, _, h⟩ := h
  exact (List.getElem?_eq_some_iff.1 h).1
theorem RowA.ext {m : Mem} {id : Nat} {l : List Int} (h : RowA m id l) (new : Mem) : RowA (m ++ new) id l := by
  have hl := h.lt
  obtain ⟨hb, kd, e, hk, h⟩ := h
  exact ⟨hb, kd, e, hk, by rw [List.getElem?_append_left hl]; exact h⟩
theorem RowA.other {m : Mem} {id id' : Nat} {l : List Int} {k0 : Int} {n : Nat} (h : RowA m id' l) (hne : id ≠ id') : RowA (markR m id k0 n) id' l := by
  obtain ⟨hb, kd, e, hk, h⟩ := h
  exact ⟨hb, kd, e, hk, by unfold markR; rw [List.getElem?_set_ne hne]; exact h⟩
theorem RowA.ro {m : Mem} {id : Nat} {l : List Int} (h : RowA m id l) : RowA (roM m) id l := by
  obtain ⟨hb, kd, e, hk, h⟩ := h
  cases kd with
  | dead => exact absurd rfl hk
  | ro => exact ⟨hb, .ro, e, by simp, by unfold roM; rw [List.getElem?_map, h]; rfl⟩
  | own => exact ⟨hb, .ro, e, by simp, by unfold roM; rw [List.getElem?_map, h]; rfl⟩
theorem RowA.ints {m : Mem} {id : Nat} {l : List Int} (h : RowA m id l) (fl : Nat) : IntsA m (.slice (some ⟨id, 0, none⟩) l.length fl) l := by
  obtain ⟨hb, kd, e, hk, h⟩ := h
  refine IntsA.of_block hb (fun k hk2 => ?_) ?_
  · unfold rdc
    rw [h]
    simp [hk, hk2]
  · unfold rdl
    rw [h]
    simp [hk, List.take_of_length_le]
theorem OwnR.row {m : Mem} {id : Nat} {l : List Int} (h : OwnR m id l) (hb : l.length ≤ 9223372036854775807) : RowA m id l := ⟨hb, .own, _, by simp, h⟩
theorem OwnR.here (m : Mem) (l : List Int) (id : Nat) (h : id = m.length) : OwnR (m ++ [rowB l]) id l := by unfold OwnR; rw [h]; simp
theorem RowA.arg {m : Mem} {l : List Int} (hb : l.length ≤ 9223372036854775807) {id : Nat} (h : id = m.length) : RowA (m ++ [⟨.ro, 0, l.map (Value.int .i64)⟩]) id l := ⟨hb, .ro, 0, by simp, by rw [h]; simp⟩
theorem CaseA.rows {m : Mem} {k : Cs} {i1 i2 i3 i4 f1 f2 f3 f4 : Nat} (h1 : RowA m i1 k.need) (h2 : RowA m i2 k.setup) (h3 : RowA m i3 k.unit) (h4 : RowA m i4 k.hold) :
    CaseA m (.agg #[.slice (some ⟨i1, 0, none⟩) k.need.length f1, .slice (some ⟨i2, 0, none⟩) k.setup.length f2, .slice (some ⟨i3, 0, none⟩) k.unit.length f3, .slice (some ⟨i4, 0, none⟩) k.hold.length f4]) k :=
  ⟨_, _, _, _, rfl, h1.ints _, h2.ints _, h3.ints _, h4.ints _⟩
theorem OwnR.other' {m : Mem} {id id' : Nat} {l : List Int} {k0 : Int} {n : Nat} (h : OwnR m id' l) (hne : id ≠ id') : OwnR (markR m id k0 n) id' l := h.other k0 n hne
theorem rdc_markR {m : Mem} {id id' k : Nat} {k0 : Int} {n : Nat} (h : id ≠ id') : rdc (markR m id k0 n) id' k = rdc m id' k := by
  unfold rdc markR; rw [List.getElem?_set_ne h]
theorem OwnR.new {m new : Mem} {i id : Nat} {l : List Int} (h : new[i]? = some (rowB l)) (hi : id = m.length + i) : OwnR (m ++ new) id l := by
  unfold OwnR; rw [hi, List.getElem?_append_right (by omega)]; simpa using h

/-- An answer: numbers, and whether there are any. -/
def AnsL (m : Mem) (l : List Int) (ok : Bool) (r : Value) (new : Mem) : Prop :=
  NoRo new ∧ l.length ≤ 1048576 ∧ ∃ i fl, r = .tuple #[.slice (some ⟨m.length + i, 0, none⟩) l.length fl, .bool ok] ∧ new[i]? = some (rowB l)
/-- An answer that is no memory. -/
def AnsV (x r : Value) (new : Mem) : Prop := r = x ∧ NoRo new
end Go.Proofs.Ytnkbjliidenldaa.Ab
