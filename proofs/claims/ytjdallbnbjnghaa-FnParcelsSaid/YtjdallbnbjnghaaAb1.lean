/- Values and memory as a proof sees them: blocks under numbers of their own, and the operations on them. -/
import Derived.Below
import Derived.Still
import Derived.Laws.AppendOwn
import Derived.Laws.OwnMore
import Derived.Lib.Hide
import Derived.Maps.AppendAt
import Derived.Laws.MakeOwn
import Derived.IntWalk
import Derived.Deep.LoopGhost
import Derived.Scope
import Derived.MapKept
import Derived.RangeFuncRecord
import Derived.OrdersIn
import Derived.ControlIn
import Derived.TacticsIn
import Derived.ChangeKeysEq
import Derived.Laws.StructEq
import Derived.Lib.AppendZeros
import Derived.Test.YtjdallbnbjnghaaTabN
namespace Go.Proofs.Ytjdallbnbjnghaa.Ab
open Go Go.RowKit
set_option linter.unusedVariables false

/-- Where each block lies: the block, the place of its cell 0, how many cells. -/
abbrev Places := List (Nat × Nat × Nat)
inductive Kd where
  | ro | own | dead
  deriving DecidableEq
structure Blk where
  kd : Kd
  el : TypeId
  cs : List Value
abbrev Mem := List Blk

/-- An abstract value and the value that it stands for. A slice's third number: 0 if its capacity is not known, else the cells of an element. -/
inductive VR (ρ : Places) : Value → Value → Prop
  | int (k : IntKind) (n : Int) : VR ρ (.int k n) (.int k n)
  | bool (b : Bool) : VR ρ (.bool b) (.bool b)
  | str (s : ByteArray) : VR ρ (.string s) (.string s)
  | ptr {id off b o tot : Nat} : ρ[id]? = some (b, o, tot) → VR ρ (.pointer (some ⟨id, off, none⟩)) (.pointer (some ⟨b, o + off, none⟩))
  | nilp : VR ρ (.pointer none) (.pointer none)
  | nils : VR ρ (.slice none 0 0) (.slice none 0 0)
  | sl {id off n fl b o tot c : Nat} {A : Option Addr} : ρ[id]? = some (b, o, tot) → n ≤ c → c ≤ maxLen →
      (fl = 0 → 0 < n → A = some ⟨b, o + off, none⟩) → (0 < fl → off + c * fl = tot ∧ (0 < tot → A = some ⟨b, o + off, none⟩)) →
      VR ρ (.slice (some ⟨id, off, none⟩) n fl) (.slice A n c)
  | agg {cs ds : Array Value} : cs.size = ds.size → (∀ (i : Nat) (x y : Value), cs[i]? = some x → ds[i]? = some y → VR ρ x y) → VR ρ (.agg cs) (.agg ds)
  | tup {cs ds : Array Value} : cs.size = ds.size → (∀ (i : Nat) (x y : Value), cs[i]? = some x → ds[i]? = some y → VR ρ x y) → VR ρ (.tuple cs) (.tuple ds)
  | fn {f : Fn} {a b c d : Array Value} : a.size = c.size → b.size = d.size → (∀ (i : Nat) (x y : Value), a[i]? = some x → c[i]? = some y → VR ρ x y) →
      (∀ (i : Nat) (x y : Value), b[i]? = some x → d[i]? = some y → VR ρ x y) → VR ρ (.func f a b) (.func f c d)
  | map {id b : Nat} : ρ[id]? = some (b, 0, 0) → VR ρ (.map (some id)) (.map (some b))
  | nilm : VR ρ (.map none) (.map none)
  | nilf : VR ρ .nilFunc .nilFunc
  | nili : VR ρ .nilIface .nilIface
  | ifc {t : TypeId} {x y : Value} : VR ρ x y → VR ρ (.iface t x) (.iface t y)

theorem pre_at {ρ ρ' : Places} {id : Nat} {p : Nat × Nat × Nat} (hp : ρ <+: ρ') (h : ρ[id]? = some p) : ρ'[id]? = some p := by
  obtain ⟨t, rfl⟩ := hp
  rw [List.getElem?_append_left (List.getElem?_eq_some_iff.1 h).1]
  exact h
theorem VR.mono {ρ ρ' : Places} (hp : ρ <+: ρ') {x y : Value} (h : VR ρ x y) : VR ρ' x y := by
  induction h with
  | int k n => exact .int k n
  | bool b => exact .bool b
  | str s => exact .str s
  | ptr h => exact .ptr (pre_at hp h)
  | nilp => exact .nilp
  | nils => exact .nils
  | sl h a b c d => exact .sl (pre_at hp h) a b c d
  | agg hs _ ih => exact .agg hs ih
  | tup hs _ ih => exact .tup hs ih
  | fn h1 h2 _ _ ih1 ih2 => exact .fn h1 h2 ih1 ih2
  | map h => exact .map (pre_at hp h)
  | nilm => exact .nilm
  | nilf => exact .nilf
  | nili => exact .nili
  | ifc _ ih => exact .ifc ih
/-- Lists of values, one by one. -/
def VL (ρ : Places) (xs ys : List Value) : Prop := xs.length = ys.length ∧ ∀ (i : Nat) (x y : Value), xs[i]? = some x → ys[i]? = some y → VR ρ x y
theorem VL.mono {ρ ρ' : Places} (hp : ρ <+: ρ') {xs ys : List Value} (h : VL ρ xs ys) : VL ρ' xs ys := ⟨h.1, fun i x y hx hy => (h.2 i x y hx hy).mono hp⟩
theorem VL.nil (ρ : Places) : VL ρ [] [] := ⟨rfl, fun i x y hx => by cases hx⟩
theorem VL.cons {ρ : Places} {x y : Value} {xs ys : List Value} (h : VR ρ x y) (hs : VL ρ xs ys) : VL ρ (x :: xs) (y :: ys) := by
  refine ⟨by simp [hs.1], fun i a b ha hb => ?_⟩
  cases i with
  | zero => simp at ha hb; subst ha; subst hb; exact h
  | succ i => exact hs.2 i a b (by simpa using ha) (by simpa using hb)
theorem VL.at_ {ρ : Places} {xs ys : List Value} (h : VL ρ xs ys) {i : Nat} {x : Value} (hx : xs[i]? = some x) : ∃ y, ys[i]? = some y ∧ VR ρ x y := by
  have hi := (List.getElem?_eq_some_iff.1 hx).1
  have hi2 : i < ys.length := by rw [← h.1]; exact hi
  exact ⟨ys[i], List.getElem?_eq_getElem hi2, h.2 i x _ hx (List.getElem?_eq_getElem hi2)⟩
theorem VL.append {ρ : Places} {xs ys as bs : List Value} (h : VL ρ xs ys) (h2 : VL ρ as bs) : VL ρ (xs ++ as) (ys ++ bs) := by
  refine ⟨by simp [h.1, h2.1], fun i a b ha hb => ?_⟩
  by_cases hi : i < xs.length
  · rw [List.getElem?_append_left hi] at ha
    rw [List.getElem?_append_left (by rw [← h.1]; exact hi)] at hb
    exact h.2 i a b ha hb
  · rw [List.getElem?_append_right (by omega)] at ha
    rw [List.getElem?_append_right (by rw [← h.1]; omega), ← h.1] at hb
    exact h2.2 _ a b ha hb
theorem VL.arr {ρ : Places} {xs ys : List Value} (h : VL ρ xs ys) : xs.toArray.size = ys.toArray.size ∧ ∀ (i : Nat) (x y : Value), xs.toArray[i]? = some x → ys.toArray[i]? = some y → VR ρ x y := by
  refine ⟨by simp [h.1], fun i x y hx hy => h.2 i x y (by simpa using hx) (by simpa using hy)⟩
theorem VL.of_arr {ρ : Places} {cs ds : Array Value} (h : cs.size = ds.size) (h2 : ∀ (i : Nat) (x y : Value), cs[i]? = some x → ds[i]? = some y → VR ρ x y) : VL ρ cs.toList ds.toList := by
  refine ⟨by simpa using h, fun i x y hx hy => h2 i x y (by simpa using hx) (by simpa using hy)⟩
theorem VR.cells {ρ : Places} {x y : Value} (h : VR ρ x y) : VL ρ x.cells.toList y.cells.toList := by
  cases h with
  | agg hs h => exact VL.of_arr hs h
  | int k n => exact .cons (.int k n) (.nil _)
  | bool b => exact .cons (.bool b) (.nil _)
  | str s => exact .cons (.str s) (.nil _)
  | ptr h => exact .cons (.ptr h) (.nil _)
  | nilp => exact .cons .nilp (.nil _)
  | nils => exact .cons .nils (.nil _)
  | sl h a b c d => exact .cons (.sl h a b c d) (.nil _)
  | tup hs h => exact .cons (.tup hs h) (.nil _)
  | fn h1 h2 h3 h4 => exact .cons (.fn h1 h2 h3 h4) (.nil _)
  | map h => exact .cons (.map h) (.nil _)
  | nilm => exact .cons .nilm (.nil _)
  | nilf => exact .cons .nilf (.nil _)
  | nili => exact .cons .nili (.nil _)
  | ifc h => exact .cons (.ifc h) (.nil _)
theorem VR.one {ρ : Places} {x y : Value} (h : VR ρ x y) (h1 : x.oneCell' = true) : y.oneCell' = true := by
  cases h <;> first | rfl | (simp [Value.oneCell'] at h1)

/-- A cell of a block that is not dead. -/
def rdc (m : Mem) (id k : Nat) : Option Value := match m[id]? with
  | some b => if b.kd = .dead then none else b.cs[k]?
  | none => none

/-- A map's entries, one by one. -/
def EL (ρ : Places) (es : List Value) (ce : List MapEntry) : Prop := es.length = ce.length ∧
  ∀ (i : Nat) (x : Value) (y : MapEntry), es[i]? = some x → ce[i]? = some y → ∃ k v, x = .tuple #[.int .i64 k, v] ∧ y.key = .int .i64 k ∧ VR ρ v y.val
theorem EL.mono {ρ ρ' : Places} (hp : ρ <+: ρ') {es : List Value} {ce : List MapEntry} (h : EL ρ es ce) : EL ρ' es ce :=
  ⟨h.1, fun i x y hx hy => by obtain ⟨k, v, h1, h2, h3⟩ := h.2 i x y hx hy; exact ⟨k, v, h1, h2, h3.mono hp⟩⟩
/-- The call's own maps: blocks that hold no cells. -/
structure MapsOk (base : Nat) (ρ : Places) (m : Mem) (w : World) : Prop where
  at_ : ∀ (id : Nat) (e : TypeId) (es : List Value), m[id]? = some ⟨.dead, e, .bool true :: es⟩ → ∃ b ce clock, ρ[id]? = some (b, 0, 0) ∧ base ≤ b ∧ w.heap[b]? = some (.map ce clock) ∧ EL ρ es ce.toList
  ap : ∀ (i j : Nat) (e1 e2 : TypeId) (xs ys : List Value) (b1 o1 t1 b2 o2 t2 : Nat), i ≠ j → m[i]? = some ⟨.dead, e1, .bool true :: xs⟩ → m[j]? = some ⟨.dead, e2, .bool true :: ys⟩ →
    ρ[i]? = some (b1, o1, t1) → ρ[j]? = some (b2, o2, t2) → b1 ≠ b2
theorem MapsOk.step {base : Nat} {ρ ρ' : Places} {m m' : Mem} {w w' : World} (h : MapsOk base ρ m w) (hp : ρ <+: ρ')
    (hm : ∀ (id : Nat) (e : TypeId) (es : List Value), m'[id]? = some ⟨.dead, e, .bool true :: es⟩ → m[id]? = some ⟨.dead, e, .bool true :: es⟩)
    (hw : ∀ (b : Nat) (ce : Array MapEntry) (cl : Nat), base ≤ b → w.heap[b]? = some (.map ce cl) → w'.heap[b]? = some (.map ce cl)) : MapsOk base ρ' m' w' where
  at_ := fun id e es hmm => by
    obtain ⟨b, ce, cl, h1, h2, h3, h4⟩ := h.at_ id e es (hm id e es hmm)
    exact ⟨b, ce, cl, pre_at hp h1, h2, hw b ce cl h2 h3, h4.mono hp⟩
  ap := fun i j e1 e2 xs ys b1 o1 t1 b2 o2 t2 hij h1 h2 hp1 hp2 => by
    have back : ∀ (i : Nat) (e : TypeId) (xs : List Value) (p : Nat × Nat × Nat), m'[i]? = some ⟨.dead, e, .bool true :: xs⟩ → ρ'[i]? = some p → ρ[i]? = some p := by
      intro i e xs p h1 hp1
      obtain ⟨b, ce, cl, g1, _⟩ := h.at_ i e xs (hm i e xs h1)
      have := pre_at hp g1
      rw [hp1] at this
      cases this
      exact g1
    exact h.ap i j e1 e2 xs ys b1 o1 t1 b2 o2 t2 hij (hm i e1 xs h1) (hm j e2 ys h2) (back i e1 xs _ h1 hp1) (back j e2 ys _ h2 hp2)
/-- What holds neither cells nor a map stays as it is. -/
def pinned : Obj → Bool
  | .cells .. => false
  | .map .. => false
  | _ => true
def Oth (W0 w : World) : Prop := ∀ (k : Nat) (o : Obj), W0.heap[k]? = some o → pinned o = true → w.heap[k]? = some o
theorem Oth.refl (w : World) : Oth w w := fun _ _ h _ => h
theorem Oth.trans {a b c : World} (h : Oth a b) (h' : Oth b c) : Oth a c := fun k o h1 h2 => h' k o (h k o h1 h2) h2
theorem Oth.of_below {w w' : World} (h : Below w.heap.size w w') : Oth w w' := fun k o h1 _ => (h.block k (Array.getElem?_eq_some_iff.1 h1).1).trans h1
theorem Oth.of_cells {w w' : World} {b : Nat} {o0 : Obj} (hb : w.heap[b]? = some o0) (h0 : pinned o0 = false) (h : ∀ i, i ≠ b → i < w.heap.size → w'.heap[i]? = w.heap[i]?) : Oth w w' := fun k o h1 h2 => by
  by_cases e : k = b
  · subst e; rw [hb] at h1; cases h1; rw [h0] at h2; cases h2
  · rw [h k e (Array.getElem?_eq_some_iff.1 h1).1]; exact h1
/-- A library's table lies as it was laid (no table in a plain seat: TabN). -/
def TabOk (base : Nat) (W : World) : Prop := ∀ (g : Nat) (vs : Array Value), tabB = some (g, vs) → g < base ∧ ∃ t fz, W.heap[g]? = some (.cells vs t fz)
theorem TabOk.at {base b2 : Nat} {W W' : World} (h : TabOk base W) (hb : Below base W W') (hle : base ≤ b2) : TabOk b2 W' := fun g vs hg => by
  obtain ⟨h1, t, fz, h2⟩ := h g vs hg
  exact ⟨by omega, t, fz, (hb.block g h1).trans h2⟩
theorem TabOk.of {base : Nat} {W W' : World} (h : TabOk base W') (hb : Below base W W') : TabOk base W := fun g vs hg => by
  obtain ⟨h1, t, fz, h2⟩ := h g vs hg
  exact ⟨h1, t, fz, (hb.block g h1).symm.trans h2⟩
structure MRel (W0 : World) (base : Nat) (ρ : Places) (m : Mem) (w : World) : Prop where
  len : ρ.length = m.length
  below : Below base W0 w
  le : base ≤ w.heap.size
  ro : ∀ (id : Nat) (e : TypeId) (xs : List Value), m[id]? = some ⟨.ro, e, xs⟩ → ∃ b o tot, ρ[id]? = some (b, o, tot) ∧ (∀ (k : Nat) (x : Value), xs[k]? = some x → b < base ∧ ∃ y, w.cell? ⟨b, o + k, none⟩ = some y ∧ VR ρ x y)
  own : ∀ (id : Nat) (e : TypeId) (xs : List Value), m[id]? = some ⟨.own, e, xs⟩ → ∃ b tot, ρ[id]? = some (b, 0, tot) ∧ xs.length ≤ tot ∧
    (0 < tot → base ≤ b ∧ ∃ cur, w.heap[b]? = some (.cells cur e (0, 0)) ∧ cur.size = tot ∧ ∀ (k : Nat) (x : Value), xs[k]? = some x → ∃ y, cur[k]? = some y ∧ VR ρ x y)
  apart : ∀ (i j : Nat) (e1 e2 : TypeId) (xs ys : List Value) (b1 o1 t1 b2 o2 t2 : Nat), i ≠ j → m[i]? = some ⟨.own, e1, xs⟩ → m[j]? = some ⟨.own, e2, ys⟩ →
    ρ[i]? = some (b1, o1, t1) → ρ[j]? = some (b2, o2, t2) → 0 < t1 → 0 < t2 → b1 ≠ b2
  maps : MapsOk base ρ m w
  oth : Oth W0 w
  tab : TabOk base W0

variable {W0 : World} {base : Nat} {ρ : Places} {m : Mem} {w : World}

theorem MRel.lt {id : Nat} {p : Nat × Nat × Nat} (h : MRel W0 base ρ m w) (hp : ρ[id]? = some p) : id < m.length := by
  rw [← h.len]; exact (List.getElem?_eq_some_iff.1 hp).1
theorem MRel.load (h : MRel W0 base ρ m w) {id k : Nat} {x : Value} {b o tot : Nat} (hx : rdc m id k = some x) (hp : ρ[id]? = some (b, o, tot)) :
    ∃ y, w.cell? ⟨b, o + k, none⟩ = some y ∧ VR ρ x y := by
  unfold rdc at hx
  cases hm : m[id]? with
  | none => rw [hm] at hx; cases hx
  | some bl =>
    rw [hm] at hx
    obtain ⟨kd, e, xs⟩ := bl
    cases kd with
    | dead => simp at hx
    | ro =>
      simp at hx
      obtain ⟨b', o', tot', hp', hc⟩ := h.ro id e xs hm
      rw [hp] at hp'
      cases hp'
      exact (hc k x hx).2
    | own =>
      simp at hx
      obtain ⟨b', tot', hp', hl, hc⟩ := h.own id e xs hm
      rw [hp] at hp'
      cases hp'
      have hk := (List.getElem?_eq_some_iff.1 hx).1
      obtain ⟨_, cur, hg, hs, hcur⟩ := hc (by omega)
      obtain ⟨y, hy, hv⟩ := hcur k x hx
      exact ⟨y, by rw [Nat.zero_add, cell_of_row w b k cur e (0, 0) hg]; exact hy, hv⟩
theorem MRel.keep {w' : World} (h : MRel W0 base ρ m w) (hb0 : Below w.heap.size w w') : MRel W0 base ρ m w' where
  len := h.len
  below := h.below.trans (hb0.mono h.le)
  le := Nat.le_trans h.le hb0.size
  ro := fun id e xs hm => by
    obtain ⟨b, o, tot, hp, hc⟩ := h.ro id e xs hm
    refine ⟨b, o, tot, hp, fun k x hx => ?_⟩
    obtain ⟨h1, y, hy, hv⟩ := hc k x hx
    exact ⟨h1, y, (hb0.cell (p := ⟨b, o + k, none⟩) (by show b < _; have := h.le; omega)).trans hy, hv⟩
  own := fun id e xs hm => by
    obtain ⟨b, tot, hp, hl, hc⟩ := h.own id e xs hm
    refine ⟨b, tot, hp, hl, fun ht => ?_⟩
    obtain ⟨h1, cur, hg, hs, hcur⟩ := hc ht
    exact ⟨h1, cur, (hb0.block b (Array.getElem?_eq_some_iff.1 hg).1).trans hg, hs, hcur⟩
  apart := h.apart
  maps := h.maps.step (List.prefix_refl _) (fun _ _ _ h => h) fun b ce cl _ hb => (hb0.block b (Array.getElem?_eq_some_iff.1 hb).1).trans hb
  oth := h.oth.trans (.of_below hb0)
  tab := h.tab
theorem MRel.drew (h : MRel W0 base ρ m w) : MRel W0 base ρ m { w with drawn := w.drawn + 1 } := h.keep ⟨rfl, rfl, rfl, Nat.le_refl _, fun _ _ => rfl⟩

theorem at_new {α : Type} (l : List α) (x : α) : (l ++ [x])[l.length]? = some x := by simp
theorem at_app {α : Type} {l : List α} {x b : α} {i : Nat} (h : (l ++ [x])[i]? = some b) : (i < l.length ∧ l[i]? = some b) ∨ (i = l.length ∧ x = b) := by
  by_cases hi : i < l.length
  · rw [List.getElem?_append_left hi] at h; exact .inl ⟨hi, h⟩
  · rw [List.getElem?_append_right (by omega)] at h
    have : i - l.length = 0 := by
      rcases Nat.eq_zero_or_pos (i - l.length) with h0 | h0
      · exact h0
      · rw [List.getElem?_eq_none (by simp; omega)] at h; cases h
    rw [this] at h
    simp at h
    exact .inr ⟨by omega, h⟩
theorem pre_snoc (ρ : Places) (p : Nat × Nat × Nat) : ρ <+: ρ ++ [p] := List.prefix_append _ _

/-- A new block. -/
theorem MRel.alloc (h : MRel W0 base ρ m w) {e : TypeId} {xs : List Value} {cur : Array Value} (hl : xs.length ≤ cur.size) (hv : ∀ (k : Nat) (x : Value), xs[k]? = some x → ∃ y, cur[k]? = some y ∧ VR ρ x y) :
    MRel W0 base (ρ ++ [(w.heap.size, 0, cur.size)]) (m ++ [⟨.own, e, xs⟩]) (w.alloc (.cells cur e)) := by
  have hk := h.keep (w' := w.alloc (.cells cur e)) ((Below.refl _ _).alloc (Nat.le_refl _) _)
  have hpre := pre_snoc ρ (w.heap.size, 0, cur.size)
  refine ⟨by simp [h.len], hk.below, hk.le, ?_, ?_, ?_, hk.maps.step hpre (fun id e es hm => by
    rcases at_app hm with ⟨_, hm⟩ | ⟨_, he⟩
    · exact hm
    · cases he) fun _ _ _ _ h => h, hk.oth, hk.tab⟩
  · intro id e' xs' hm
    rcases at_app hm with ⟨hi, hm⟩ | ⟨_, he⟩
    · obtain ⟨b, o, tot, hp, hc⟩ := hk.ro id e' xs' hm
      exact ⟨b, o, tot, pre_at hpre hp, fun k x hx => by obtain ⟨h1, y, hy, hv⟩ := hc k x hx; exact ⟨h1, y, hy, hv.mono hpre⟩⟩
    · cases he
  · intro id e' xs' hm
    rcases at_app hm with ⟨hi, hm⟩ | ⟨hi, he⟩
    · obtain ⟨b, tot, hp, hl, hc⟩ := hk.own id e' xs' hm
      refine ⟨b, tot, pre_at hpre hp, hl, fun ht => ?_⟩
      obtain ⟨h1, cur', hg, hs, hcur⟩ := hc ht
      exact ⟨h1, cur', hg, hs, fun k x hx => by obtain ⟨y, hy, hv⟩ := hcur k x hx; exact ⟨y, hy, hv.mono hpre⟩⟩
    · cases he
      refine ⟨w.heap.size, cur.size, by rw [hi, ← h.len]; simp, hl, fun _ => ⟨h.le, cur, heap_alloc_new w _, rfl, fun k x hx => ?_⟩⟩
      obtain ⟨y, hy, hvr⟩ := hv k x hx
      exact ⟨y, hy, hvr.mono hpre⟩
  · intro i j e1 e2 xs1 xs2 b1 o1 t1 b2 o2 t2 hij h1 h2 hp1 hp2 ht1 ht2
    have old : ∀ (i : Nat) (e : TypeId) (xs : List Value) (b o t : Nat), i < m.length → m[i]? = some ⟨.own, e, xs⟩ → (ρ ++ [(w.heap.size, 0, cur.size)])[i]? = some (b, o, t) → 0 < t → ρ[i]? = some (b, o, t) ∧ b < w.heap.size := by
      intro i e xs b o t hi hm hp ht
      rw [List.getElem?_append_left (by rw [h.len]; exact hi)] at hp
      refine ⟨hp, ?_⟩
      obtain ⟨b', tot', hp', _, hc⟩ := h.own i e xs hm
      rw [hp] at hp'
      cases hp'
      obtain ⟨_, cur', hg, _⟩ := hc ht
      exact (Array.getElem?_eq_some_iff.1 hg).1
    have new : ∀ (i : Nat) (b o t : Nat), i = m.length → (ρ ++ [(w.heap.size, 0, cur.size)])[i]? = some (b, o, t) → b = w.heap.size := by
      intro i b o t hi hp
      rw [hi, ← h.len] at hp
      simp at hp
      exact hp.1.symm
    rcases at_app h1 with ⟨hi1, hm1⟩ | ⟨hi1, he1⟩ <;> rcases at_app h2 with ⟨hi2, hm2⟩ | ⟨hi2, he2⟩
    · exact h.apart i j e1 e2 xs1 xs2 b1 o1 t1 b2 o2 t2 hij hm1 hm2 (old i e1 xs1 b1 o1 t1 hi1 hm1 hp1 ht1).1 (old j e2 xs2 b2 o2 t2 hi2 hm2 hp2 ht2).1 ht1 ht2
    · have := (old i e1 xs1 b1 o1 t1 hi1 hm1 hp1 ht1).2
      have := new j b2 o2 t2 hi2 hp2
      omega
    · have := (old j e2 xs2 b2 o2 t2 hi2 hm2 hp2 ht2).2
      have := new i b1 o1 t1 hi1 hp1
      omega
    · omega
/-- A block that lies there already is taken under a new number. -/
theorem MRel.add (h : MRel W0 base ρ m w) {e : TypeId} {xs : List Value} {g tot : Nat} (hl : xs.length ≤ tot)
    (hg : 0 < tot → base ≤ g ∧ ∃ cur, w.heap[g]? = some (.cells cur e (0, 0)) ∧ cur.size = tot ∧ ∀ (k : Nat) (x : Value), xs[k]? = some x → ∃ y, cur[k]? = some y ∧ VR ρ x y)
    (hap : 0 < tot → ∀ (i : Nat) (e1 : TypeId) (xs1 : List Value) (b1 o1 t1 : Nat), m[i]? = some ⟨.own, e1, xs1⟩ → ρ[i]? = some (b1, o1, t1) → 0 < t1 → b1 ≠ g) :
    MRel W0 base (ρ ++ [(g, 0, tot)]) (m ++ [⟨.own, e, xs⟩]) w := by
  have hpre := pre_snoc ρ (g, 0, tot)
  refine ⟨by simp [h.len], h.below, h.le, ?_, ?_, ?_, h.maps.step hpre (fun id e es hm => by
    rcases at_app hm with ⟨_, hm⟩ | ⟨_, he⟩
    · exact hm
    · cases he) fun _ _ _ _ h => h, h.oth, h.tab⟩
  · intro id e' xs' hm
    rcases at_app hm with ⟨hi, hm⟩ | ⟨_, he⟩
    · obtain ⟨b, o, tot, hp, hc⟩ := h.ro id e' xs' hm
      exact ⟨b, o, tot, pre_at hpre hp, fun k x hx => by obtain ⟨h1, y, hy, hv⟩ := hc k x hx; exact ⟨h1, y, hy, hv.mono hpre⟩⟩
    · cases he
  · intro id e' xs' hm
    rcases at_app hm with ⟨hi, hm⟩ | ⟨hi, he⟩
    · obtain ⟨b, tot, hp, hl, hc⟩ := h.own id e' xs' hm
      refine ⟨b, tot, pre_at hpre hp, hl, fun ht => ?_⟩
      obtain ⟨h1, cur', hg, hs, hcur⟩ := hc ht
      exact ⟨h1, cur', hg, hs, fun k x hx => by obtain ⟨y, hy, hv⟩ := hcur k x hx; exact ⟨y, hy, hv.mono hpre⟩⟩
    · cases he
      refine ⟨g, tot, by rw [hi, ← h.len]; simp, hl, fun ht => ?_⟩
      obtain ⟨h1, cur, hg, hs, hcur⟩ := hg ht
      exact ⟨h1, cur, hg, hs, fun k x hx => by obtain ⟨y, hy, hv⟩ := hcur k x hx; exact ⟨y, hy, hv.mono hpre⟩⟩
  · intro i j e1 e2 xs1 xs2 b1 o1 t1 b2 o2 t2 hij h1 h2 hp1 hp2 ht1 ht2
    have old : ∀ (i : Nat) (p : Nat × Nat × Nat), i < m.length → (ρ ++ [(g, 0, tot)])[i]? = some p → ρ[i]? = some p := by
      intro i p hi hp
      rw [List.getElem?_append_left (by rw [h.len]; exact hi)] at hp
      exact hp
    have new : ∀ (i : Nat) (b o t : Nat), i = m.length → (ρ ++ [(g, 0, tot)])[i]? = some (b, o, t) → b = g ∧ t = tot := by
      intro i b o t hi hp
      rw [hi, ← h.len] at hp
      simp at hp
      exact ⟨hp.1.symm, hp.2.2.symm⟩
    rcases at_app h1 with ⟨hi1, hm1⟩ | ⟨hi1, he1⟩ <;> rcases at_app h2 with ⟨hi2, hm2⟩ | ⟨hi2, he2⟩
    · exact h.apart i j e1 e2 xs1 xs2 b1 o1 t1 b2 o2 t2 hij hm1 hm2 (old i _ hi1 hp1) (old j _ hi2 hp2) ht1 ht2
    · obtain ⟨rfl, rfl⟩ := new j b2 o2 t2 hi2 hp2
      exact hap ht2 i e1 xs1 b1 o1 t1 hm1 (old i _ hi1 hp1) ht1
    · obtain ⟨rfl, rfl⟩ := new i b1 o1 t1 hi1 hp1
      exact fun e => hap ht1 j e2 xs2 b2 o2 t2 hm2 (old j _ hi2 hp2) ht2 e.symm
    · omega

def deadB : Blk := ⟨.dead, 0, []⟩
theorem at_set {α : Type} {l : List α} {x b : α} {i id : Nat} (h : (l.set id x)[i]? = some b) : (i ≠ id ∧ l[i]? = some b) ∨ (i = id ∧ x = b ∧ id < l.length) := by
  by_cases hi : id = i
  · subst hi
    rw [List.getElem?_set] at h
    simp only [if_true] at h
    split at h
    · exact .inr ⟨rfl, by simpa using h, ‹_›⟩
    · cases h
  · rw [List.getElem?_set_ne hi] at h
    exact .inl ⟨fun e => hi e.symm, h⟩
/-- One of the call's own blocks is written, and forgotten; all others are as they were. -/
theorem MRel.kill {w' : World} (h : MRel W0 base ρ m w) {id b : Nat} {e : TypeId} {xs : List Value} {tot : Nat} (hm0 : m[id]? = some ⟨.own, e, xs⟩) (hp0 : ρ[id]? = some (b, 0, tot)) (row : Option Nat)
    (hrow : ∀ k, row = some k → k = b ∧ 0 < tot) (hg : w.grownBy w' row) : MRel W0 base ρ (m.set id deadB) w' where
  len := by simp [h.len]
  below := h.below.grown hg h.le fun k hk => by
    obtain ⟨rfl, ht⟩ := hrow k hk
    obtain ⟨b', tot', hp, _, hc⟩ := h.own id e xs hm0
    rw [hp0] at hp
    cases hp
    exact (hc ht).1
  le := Nat.le_trans h.le hg.size
  ro := fun i e' xs' hm => by
    rcases at_set hm with ⟨hi, hm⟩ | ⟨_, he, _⟩
    · obtain ⟨b2, o, t, hp, hc⟩ := h.ro i e' xs' hm
      refine ⟨b2, o, t, hp, fun k x hx => ?_⟩
      obtain ⟨h1, y, hy, hv⟩ := hc k x hx
      refine ⟨h1, y, ?_, hv⟩
      refine hg.cell hy fun hrw => ?_
      obtain ⟨rfl, ht⟩ := hrow b2 hrw.symm
      obtain ⟨b', tot', hp, _, hc⟩ := h.own id e xs hm0
      rw [hp0] at hp
      cases hp
      have := (hc ht).1
      omega
    · cases he
  own := fun i e' xs' hm => by
    rcases at_set hm with ⟨hi, hm⟩ | ⟨_, he, _⟩
    · obtain ⟨b2, t, hp, hl, hc⟩ := h.own i e' xs' hm
      refine ⟨b2, t, hp, hl, fun ht => ?_⟩
      obtain ⟨h1, cur, hgg, hs, hcur⟩ := hc ht
      refine ⟨h1, cur, ?_, hs, hcur⟩
      rw [hg.block b2 (Array.getElem?_eq_some_iff.1 hgg).1 (fun hrw => ?_)]
      · exact hgg
      · obtain ⟨rfl, ht0⟩ := hrow b2 hrw.symm
        exact h.apart i id e' e xs' xs b2 0 t b2 0 tot hi hm hm0 hp hp0 ht ht0 rfl
    · cases he
  apart := by
    intro i j e1 e2 xs1 xs2 b1 o1 t1 b2 o2 t2 hij h1 h2
    rcases at_set h1 with ⟨hi1, hm1⟩ | ⟨_, he, _⟩ <;> rcases at_set h2 with ⟨hi2, hm2⟩ | ⟨_, he2, _⟩
    · exact h.apart i j e1 e2 xs1 xs2 b1 o1 t1 b2 o2 t2 hij hm1 hm2
    · cases he2
    · cases he
    · cases he
  maps := h.maps.step (List.prefix_refl _) (fun i e es hm => by
    rcases at_set hm with ⟨_, hm⟩ | ⟨_, he, _⟩
    · exact hm
    · cases he) fun b2 ce cl _ hb2 => by
    rw [hg.block b2 (Array.getElem?_eq_some_iff.1 hb2).1 (fun hrw => ?_)]
    · exact hb2
    · obtain ⟨rfl, ht0⟩ := hrow b2 hrw.symm
      obtain ⟨b', tot', hp, _, hc⟩ := h.own id e xs hm0
      rw [hp0] at hp
      cases hp
      obtain ⟨_, cur, hg2, _⟩ := hc ht0
      rw [hg2] at hb2
      cases hb2
  oth := h.oth.trans (fun k o hk hpo => by
    rw [hg.block k (Array.getElem?_eq_some_iff.1 hk).1 (fun hrw => ?_)]
    · exact hk
    · obtain ⟨rfl, ht0⟩ := hrow k hrw.symm
      obtain ⟨b', tot', hp, _, hc⟩ := h.own id e xs hm0
      rw [hp0] at hp
      cases hp
      obtain ⟨_, cur, hg2, _⟩ := hc ht0
      rw [hg2] at hk
      cases hk
      cases hpo)
  tab := h.tab
theorem MRel.grown {w' : World} (h : MRel W0 base ρ m w) (hg : w.grownBy w' none) : MRel W0 base ρ m w' :=
  h.keep ⟨hg.os, hg.tape, hg.output, hg.size, fun k hk => hg.block k hk (by simp)⟩

/-- A store into one of the call's own blocks. -/
theorem MRel.store (h : MRel W0 base ρ m w) {id b k : Nat} {e : TypeId} {xs : List Value} {tot : Nat} {x y : Value} (hm0 : m[id]? = some ⟨.own, e, xs⟩) (hp0 : ρ[id]? = some (b, 0, tot)) (hk : k < xs.length)
    (hv : VR ρ x y) : MRel W0 base ρ (m.set id ⟨.own, e, xs.set k x⟩) (w.setCell ⟨b, k, none⟩ y) := by
  obtain ⟨b', tot', hp, hl, hc⟩ := h.own id e xs hm0
  rw [hp0] at hp
  cases hp
  obtain ⟨hbb, cur, hgg, hs, hcur⟩ := hc (by omega)
  have hbl : b < w.heap.size := (Array.getElem?_eq_some_iff.1 hgg).1
  have hset : (w.setCell ⟨b, k, none⟩ y).heap[b]? = some (.cells (cur.setIfInBounds k y) e (0, 0)) := by
    simp only [World.setCell, Array.getElem?_modify, if_true, hgg]
    simp
  have hoth : ∀ i, i ≠ b → (w.setCell ⟨b, k, none⟩ y).heap[i]? = w.heap[i]? := fun i hi => Below.heap_setCell w ⟨b, k, none⟩ y i hi
  refine ⟨by simp [h.len], h.below.setCell (p := ⟨b, k, none⟩) hbb y, by simpa [World.setCell] using h.le, ?_, ?_, ?_, h.maps.step (List.prefix_refl _) (fun i e es hm => by
    rcases at_set hm with ⟨_, hm⟩ | ⟨_, he, _⟩
    · exact hm
    · cases he) fun b2 ce cl _ hb2 => by
    rw [hoth b2 (fun e => by subst e; rw [hgg] at hb2; cases hb2)]
    exact hb2, h.oth.trans (.of_cells hgg rfl fun i hi _ => hoth i hi), h.tab⟩
  · intro i e' xs' hm
    rcases at_set hm with ⟨hi, hm⟩ | ⟨_, he, _⟩
    · obtain ⟨b2, o, t, hp, hc2⟩ := h.ro i e' xs' hm
      refine ⟨b2, o, t, hp, fun k2 x2 hx => ?_⟩
      obtain ⟨h1, y2, hy, hv2⟩ := hc2 k2 x2 hx
      refine ⟨h1, y2, ?_, hv2⟩
      rw [World.cell?_of_block (w := w) (hoth b2 (by omega))]
      exact hy
    · cases he
  · intro i e' xs' hm
    rcases at_set hm with ⟨hi, hm⟩ | ⟨hi, he, hlt⟩
    · obtain ⟨b2, t, hp, hl2, hc2⟩ := h.own i e' xs' hm
      refine ⟨b2, t, hp, hl2, fun ht => ?_⟩
      obtain ⟨h1, cur2, hgg2, hs2, hcur2⟩ := hc2 ht
      refine ⟨h1, cur2, ?_, hs2, hcur2⟩
      rw [hoth b2 (h.apart i id e' e xs' xs b2 0 t b 0 tot hi hm hm0 hp hp0 ht (by omega))]
      exact hgg2
    · cases he
      subst hi
      refine ⟨b, tot, hp0, by simpa using hl, fun ht => ⟨hbb, _, hset, by simpa using hs, fun k2 x2 hx => ?_⟩⟩
      by_cases hk2 : k = k2
      · subst hk2
        rw [List.getElem?_set_self hk] at hx
        cases hx
        exact ⟨y, by rw [Array.getElem?_setIfInBounds_self_of_lt (by omega)], hv⟩
      · rw [List.getElem?_set_ne hk2] at hx
        obtain ⟨y2, hy2, hv2⟩ := hcur k2 x2 hx
        exact ⟨y2, by rw [Array.getElem?_setIfInBounds_ne hk2]; exact hy2, hv2⟩
  · intro i j e1 e2 xs1 xs2 b1 o1 t1 b2 o2 t2 hij h1 h2
    have back : ∀ (i : Nat) (e1 : TypeId) (xs1 : List Value), (m.set id ⟨.own, e, xs.set k x⟩)[i]? = some ⟨.own, e1, xs1⟩ → ∃ e1 xs1, m[i]? = some ⟨.own, e1, xs1⟩ := by
      intro i e1 xs1 h1
      rcases at_set h1 with ⟨_, hm1⟩ | ⟨hi, _, _⟩
      · exact ⟨e1, xs1, hm1⟩
      · subst hi; exact ⟨e, xs, hm0⟩
    obtain ⟨f1, ys1, g1⟩ := back i e1 xs1 h1
    obtain ⟨f2, ys2, g2⟩ := back j e2 xs2 h2
    exact h.apart i j f1 f2 ys1 ys2 b1 o1 t1 b2 o2 t2 hij g1 g2

/-- All that is there, to be read alone. -/
def roB (b : Blk) : Blk := match b.kd with
  | .own => { b with kd := .ro }
  | .dead => deadB
  | .ro => b
def roM (m : Mem) : Mem := m.map roB
theorem rdc_roM (m : Mem) (id k : Nat) : rdc (roM m) id k = rdc m id k := by
  unfold rdc roM
  rw [List.getElem?_map]
  cases m[id]? with
  | none => rfl
  | some b => obtain ⟨kd, e, xs⟩ := b; cases kd <;> rfl
theorem roM_len (m : Mem) : (roM m).length = m.length := by simp [roM]
theorem roM_noMap {m : Mem} {id : Nat} {e : TypeId} {es : List Value} (hm : (roM m)[id]? = some ⟨.dead, e, .bool true :: es⟩) : False := by
  rw [roM, List.getElem?_map] at hm
  cases hb : m[id]? with
  | none => rw [hb] at hm; cases hm
  | some bl => rw [hb] at hm; obtain ⟨kd, e', xs'⟩ := bl; cases kd <;> simp [roB, deadB] at hm
theorem MRel.toRo (h : MRel W0 base ρ m w) : MRel w w.heap.size ρ (roM m) w where
  len := by rw [roM_len]; exact h.len
  below := Below.refl _ _
  le := Nat.le_refl _
  ro := fun id e xs hm => by
    rw [roM, List.getElem?_map] at hm
    cases hb : m[id]? with
    | none => rw [hb] at hm; cases hm
    | some bl =>
      rw [hb] at hm
      obtain ⟨kd, e', xs'⟩ := bl
      cases kd with
      | dead => simp [roB, deadB] at hm
      | ro =>
        simp [roB] at hm
        obtain ⟨rfl, rfl⟩ := hm
        obtain ⟨b, o, tot, hp, hc⟩ := h.ro id e' xs' hb
        refine ⟨b, o, tot, hp, fun k x hx => ?_⟩
        obtain ⟨h1, y, hy, hv⟩ := hc k x hx
        exact ⟨by have := h.le; omega, y, hy, hv⟩
      | own =>
        simp [roB] at hm
        obtain ⟨rfl, rfl⟩ := hm
        obtain ⟨b, tot, hp, hl, hc⟩ := h.own id e' xs' hb
        refine ⟨b, 0, tot, hp, fun k x hx => ?_⟩
        have hk := (List.getElem?_eq_some_iff.1 hx).1
        obtain ⟨h1, cur, hg, hs, hcur⟩ := hc (by omega)
        obtain ⟨y, hy, hv⟩ := hcur k x hx
        exact ⟨(Array.getElem?_eq_some_iff.1 hg).1, y, by rw [Nat.zero_add, cell_of_row w b k cur e' (0, 0) hg]; exact hy, hv⟩
  own := fun id e xs hm => by
    rw [roM, List.getElem?_map] at hm
    cases hb : m[id]? with
    | none => rw [hb] at hm; cases hm
    | some bl => rw [hb] at hm; obtain ⟨kd, e', xs'⟩ := bl; cases kd <;> simp [roB, deadB] at hm
  apart := fun i j e1 e2 xs1 xs2 b1 o1 t1 b2 o2 t2 hij hm => by
    rw [roM, List.getElem?_map] at hm
    cases hb : m[i]? with
    | none => rw [hb] at hm; cases hm
    | some bl => rw [hb] at hm; obtain ⟨kd, e', xs'⟩ := bl; cases kd <;> simp [roB, deadB] at hm
  maps := ⟨fun id e es hm => (roM_noMap hm).elim, fun i j e1 e2 xs ys b1 o1 t1 b2 o2 t2 hij hm => (roM_noMap hm).elim⟩
  oth := Oth.refl _
  tab := h.tab.at h.below h.le
/-- New blocks: none of them only to be read. -/
def NoRo (l : Mem) : Prop := ∀ b ∈ l, b.kd ≠ .ro
theorem MRel.back {w' : World} {ρn : Places} {new : Mem} (h : MRel W0 base ρ m w) (h2 : MRel w w.heap.size (ρ ++ ρn) (roM m ++ new) w') (hn : NoRo new) : MRel W0 base (ρ ++ ρn) (m ++ new) w' := by
  have hk := h.keep h2.below
  have hpre : ρ <+: ρ ++ ρn := List.prefix_append _ _
  have split : ∀ (i : Nat) (b : Blk), (m ++ new)[i]? = some b → (m[i]? = some b) ∨ (m.length ≤ i ∧ (roM m ++ new)[i]? = some b ∧ b ∈ new) := by
    intro i b hb
    by_cases hi : i < m.length
    · rw [List.getElem?_append_left hi] at hb; exact .inl hb
    · refine .inr ⟨by omega, ?_, ?_⟩
      · rw [List.getElem?_append_right (by omega)] at hb
        rw [List.getElem?_append_right (by rw [roM_len]; omega), roM_len]
        exact hb
      · rw [List.getElem?_append_right (by omega)] at hb
        exact List.mem_of_getElem? hb
  refine ⟨by have := h2.len; simp [roM_len] at this ⊢; omega, hk.below, hk.le, ?_, ?_, ?_, ?_, h.oth.trans h2.oth, h.tab⟩
  · intro id e xs hm
    rcases split id _ hm with hm | ⟨_, _, hin⟩
    · obtain ⟨b, o, tot, hp, hc⟩ := hk.ro id e xs hm
      exact ⟨b, o, tot, pre_at hpre hp, fun k x hx => by obtain ⟨h1, y, hy, hv⟩ := hc k x hx; exact ⟨h1, y, hy, hv.mono hpre⟩⟩
    · exact absurd rfl (hn _ hin)
  · intro id e xs hm
    rcases split id _ hm with hm | ⟨_, hm, _⟩
    · obtain ⟨b, tot, hp, hl, hc⟩ := hk.own id e xs hm
      refine ⟨b, tot, pre_at hpre hp, hl, fun ht => ?_⟩
      obtain ⟨h1, cur', hg, hs, hcur⟩ := hc ht
      exact ⟨h1, cur', hg, hs, fun k x hx => by obtain ⟨y, hy, hv⟩ := hcur k x hx; exact ⟨y, hy, hv.mono hpre⟩⟩
    · obtain ⟨b, tot, hp, hl, hc⟩ := h2.own id e xs hm
      refine ⟨b, tot, hp, hl, fun ht => ?_⟩
      obtain ⟨h1, rest⟩ := hc ht
      exact ⟨by have := h.le; omega, rest⟩
  · intro i j e1 e2 xs1 xs2 b1 o1 t1 b2 o2 t2 hij h1 h2' hp1 hp2 ht1 ht2
    have old : ∀ (i : Nat) (e : TypeId) (xs : List Value) (b o t : Nat), m[i]? = some ⟨.own, e, xs⟩ → (ρ ++ ρn)[i]? = some (b, o, t) → 0 < t → ρ[i]? = some (b, o, t) ∧ b < w.heap.size := by
      intro i e xs b o t hm hp ht
      obtain ⟨b', tot', hp', _, hc⟩ := h.own i e xs hm
      have := pre_at hpre hp'
      rw [hp] at this
      cases this
      obtain ⟨_, cur', hg, _⟩ := hc ht
      exact ⟨hp', (Array.getElem?_eq_some_iff.1 hg).1⟩
    have new' : ∀ (i : Nat) (e : TypeId) (xs : List Value) (b o t : Nat), (roM m ++ new)[i]? = some ⟨.own, e, xs⟩ → (ρ ++ ρn)[i]? = some (b, o, t) → 0 < t → w.heap.size ≤ b := by
      intro i e xs b o t hm hp ht
      obtain ⟨b', tot', hp', _, hc⟩ := h2.own i e xs hm
      rw [hp] at hp'
      cases hp'
      exact (hc ht).1
    rcases split i _ h1 with hm1 | ⟨_, hm1, _⟩ <;> rcases split j _ h2' with hm2 | ⟨_, hm2, _⟩
    · exact h.apart i j e1 e2 xs1 xs2 b1 o1 t1 b2 o2 t2 hij hm1 hm2 (old i e1 xs1 b1 o1 t1 hm1 hp1 ht1).1 (old j e2 xs2 b2 o2 t2 hm2 hp2 ht2).1 ht1 ht2
    · have := (old i e1 xs1 b1 o1 t1 hm1 hp1 ht1).2
      have := new' j e2 xs2 b2 o2 t2 hm2 hp2 ht2
      omega
    · have := (old j e2 xs2 b2 o2 t2 hm2 hp2 ht2).2
      have := new' i e1 xs1 b1 o1 t1 hm1 hp1 ht1
      omega
    · exact h2.apart i j e1 e2 xs1 xs2 b1 o1 t1 b2 o2 t2 hij hm1 hm2 hp1 hp2 ht1 ht2
  · have hle := h.le
    refine ⟨fun id e es hm => ?_, fun i j e1 e2 xs ys b1 o1 t1 b2 o2 t2 hij h1 h2' hp1 hp2 => ?_⟩
    · rcases split id _ hm with hm | ⟨_, hm, _⟩
      · obtain ⟨b, ce, cl, g1, g2, g3, g4⟩ := hk.maps.at_ id e es hm
        exact ⟨b, ce, cl, pre_at hpre g1, g2, g3, g4.mono hpre⟩
      · obtain ⟨b, ce, cl, g1, g2, g3, g4⟩ := h2.maps.at_ id e es hm
        exact ⟨b, ce, cl, g1, by omega, g3, g4⟩
    · have old : ∀ (i : Nat) (e : TypeId) (xs : List Value) (b o t : Nat), m[i]? = some ⟨.dead, e, .bool true :: xs⟩ → (ρ ++ ρn)[i]? = some (b, o, t) → ρ[i]? = some (b, o, t) ∧ b < w.heap.size := by
        intro i e xs b o t hm hp
        obtain ⟨b', ce, cl, g1, _, g3, _⟩ := h.maps.at_ i e xs hm
        have := pre_at hpre g1
        rw [hp] at this
        cases this
        exact ⟨g1, (Array.getElem?_eq_some_iff.1 g3).1⟩
      have new' : ∀ (i : Nat) (e : TypeId) (xs : List Value) (b o t : Nat), (roM m ++ new)[i]? = some ⟨.dead, e, .bool true :: xs⟩ → (ρ ++ ρn)[i]? = some (b, o, t) → w.heap.size ≤ b := by
        intro i e xs b o t hm hp
        obtain ⟨b', ce, cl, g1, g2, _⟩ := h2.maps.at_ i e xs hm
        rw [hp] at g1
        cases g1
        exact g2
      rcases split i _ h1 with hm1 | ⟨_, hm1, _⟩ <;> rcases split j _ h2' with hm2 | ⟨_, hm2, _⟩
      · exact h.maps.ap i j e1 e2 xs ys b1 o1 t1 b2 o2 t2 hij hm1 hm2 (old i e1 xs b1 o1 t1 hm1 hp1).1 (old j e2 ys b2 o2 t2 hm2 hp2).1
      · have := (old i e1 xs b1 o1 t1 hm1 hp1).2
        have := new' j e2 ys b2 o2 t2 hm2 hp2
        omega
      · have := (old j e2 ys b2 o2 t2 hm2 hp2).2
        have := new' i e1 xs b1 o1 t1 hm1 hp1
        omega
      · exact h2.maps.ap i j e1 e2 xs ys b1 o1 t1 b2 o2 t2 hij hm1 hm2 hp1 hp2
structure St where
  t : Nat → Value
  m : Mem
def upd (f : Nat → Value) (d : Nat) (v : Value) : Nat → Value := fun i => if i = d then v else f i
def St.ev (s : St) : Operand → Value
  | .tmp i => s.t i
  | .const v => v
  | .func f => .func (.func f) #[] #[]
  | .global _ => undef
def St.put (s : St) (d : Option Nat) (v : Value) (m : Mem) : St := match d with
  | some d => ⟨upd s.t d v, m⟩
  | none => ⟨s.t, m⟩
def markOf (D : Nat) : Deferred := { target := .collected D, args := #[] }
/-- The marks of the ranges over functions that are over: each names a block that holds no call. -/
structure Marks (lw : Nat) (W0 : World) (base : Nat) (ds : List Deferred) : Prop where
  le : lw ≤ W0.heap.size
  ex : ∃ L : List Nat, ds = L.map markOf ∧ L.Nodup ∧ ∀ D ∈ L, lw ≤ D ∧ base ≤ D ∧ W0.heap[D]? = some (.deferred (some []))
structure SRel (lw : Nat) (W0 : World) (base : Nat) (ρ : Places) (n : Nat) (s : St) (a : Act) (w : World) : Prop where
  mem : MRel W0 base ρ s.m w
  defers : Marks lw W0 base a.defers
  size : a.tmps.size = n
  tmps : ∀ i, i < n → VR ρ (s.t i) (a.tmps.getD i undef)
variable {lw : Nat}

/-- A constant without an address. -/
def constOk : Value → Bool
  | .int _ _ | .bool _ | .string _ | .pointer none | .map none | .slice none 0 0 | .nilFunc | .nilIface => true
  | _ => false
def opdOk (n : Nat) : Operand → Bool
  | .tmp i => i < n
  | .const v => constOk v
  | .func _ => true
  | .global _ => false
theorem VR.const {ρ : Places} {v : Value} (h : constOk v = true) : VR ρ v v := by
  unfold constOk at h
  split at h <;> first | exact .int _ _ | exact .bool _ | exact .str _ | exact .nilp | exact .nilm | exact .nils | exact .nilf | exact .nili | cases h
theorem VR.func0 (ρ : Places) (f : FuncId) : VR ρ (.func (.func f) #[] #[]) (.func (.func f) #[] #[]) := .fn rfl rfl (fun i x y h => by simp at h) (fun i x y h => by simp at h)
variable {n : Nat} {s : St} {a : Act} {P : Program}
theorem SRel.ev (h : SRel lw W0 base ρ n s a w) {x : Operand} (hx : opdOk n x = true) : VR ρ (s.ev x) (a.eval x) := by
  cases x with
  | tmp i => exact h.tmps i (by simpa [opdOk] using hx)
  | const v => exact VR.const hx
  | func f => exact VR.func0 ρ f
  | global g => cases hx
theorem SRel.put {ρ' : Places} {w' : World} {m' : Mem} {v v' : Value} {d : Option Nat} (h : SRel lw W0 base ρ n s a w) (hp : ρ <+: ρ') (hm : MRel W0 base ρ' m' w') (hv : VR ρ' v v') (hd : ∀ i, d = some i → i < n) :
    SRel lw W0 base ρ' n (s.put d v m') (a.put d v') w' := by
  cases d with
  | none => exact ⟨hm, h.defers, h.size, fun i hi => (h.tmps i hi).mono hp⟩
  | some d =>
    refine ⟨hm, h.defers, by simpa [Act.put] using h.size, fun i hi => ?_⟩
    have hd' := hd d rfl
    simp only [St.put, upd, Act.put]
    by_cases e : i = d
    · subst e
      rw [if_pos rfl]
      simp [Array.getD_eq_getD_getElem?, h.size, hd']
      exact hv
    · rw [if_neg e]
      have : (a.tmps.setIfInBounds d v').getD i undef = a.tmps.getD i undef := by
        simp [Array.getD_eq_getD_getElem?, Ne.symm e]
      rw [this]
      exact (h.tmps i hi).mono hp

inductive AOp where
  | never
  | mv (x : Operand)
  | pick (c a b : Operand)
  | bin (op : BinOp) (x y : Operand)
  | beq (neg : Bool) (x y : Operand)
  | aeq (neg : Bool) (k : Nat) (x y : Operand)
  | un (op : UnOp) (x : Operand)
  | conv (k : IntKind) (x : Operand)
  | ld (n : Option Nat) (a : Operand)
  | fld (off : Nat) (n : Option Nat) (x : Operand)
  | fad (off : Nat) (x : Operand)
  | iad (sz : Nat) (x i : Operand)
  | iada (sz len : Nat) (x i : Operand)
  | idxs (x i : Operand)
  | idxa (sz len : Nat) (n : Option Nat) (x i : Operand)
  | slc (sz : Nat) (x : Operand) (lo hi : Option Operand)
  | slcs (x : Operand) (lo hi : Option Operand)
  | slcp (sz len : Nat) (x : Operand) (lo hi : Option Operand)
  | len (x : Operand)
  | lens (x : Operand)
  | ext (i : Nat) (x : Operand)
  | mkf (f : FuncId) (first cap : List Operand)
  | bld (zero : List Value) (parts : List (Nat × Nat × Operand))
  | nilc (x : Operand)
  | mif (t : TypeId) (x : Operand)
  | sln (neg : Bool) (x : Operand)
  | ptn (neg : Bool) (x : Operand)
  | cpz (x : Operand)
  | mmx (mx : Bool) (x y : Operand)
  | box (e : TypeId) (x : Operand)
  | alc (e : TypeId) (zero : List Value)
  | bsl (e sz len : Nat) (zero : List Value) (parts : List (Nat × Nat × Operand))
  | mks (e byt : Nat) (zero : List Value) (l c : Operand)
  | st (n : Nat) (a x : Operand)
  | app (e sz byt : Nat) (s x : Operand)
  | cpy (sz : Nat) (s x : Operand)
  | apz (e byt : Nat) (z : List Value) (y x : Operand)
  | mkm (e : TypeId)
  | mup (m k x : Operand)
  | lkp (ok : Bool) (z : Value) (m k : Operand)
  | call (f : Operand) (args : List Operand)
  | rcall (f : Operand) (args : List Operand)
  | inv (x : Operand) (name : String) (args : List Operand)
  | clr (z : List Value) (x : Operand)

/-- int and string operators -/
def binA (op : BinOp) : Value → Value → Option Value
  | .int k a, .int k' b => match op with
    | .shl => if b < 0 then none else some (.int k (k.wrap (a * 2 ^ (min b.toNat k.bits))))
    | .shr => if b < 0 then none else some (.int k (a.fdiv (2 ^ (min b.toNat k.bits))))
    | op => if k = k' then (match op with
      | .add => some (.int k (k.wrap (a + b)))
      | .sub => some (.int k (k.wrap (a - b)))
      | .mul => some (.int k (k.wrap (a * b)))
      | .quo => if b = 0 then none else some (.int k (k.wrap (a.tdiv b)))
      | .rem => if b = 0 then none else some (.int k (a.tmod b))
      | .and => some (.int k (k.wrap (BitVec.ofInt k.bits a &&& BitVec.ofInt k.bits b).toNat))
      | .or => some (.int k (k.wrap (BitVec.ofInt k.bits a ||| BitVec.ofInt k.bits b).toNat))
      | .xor => some (.int k (k.wrap (BitVec.ofInt k.bits a ^^^ BitVec.ofInt k.bits b).toNat))
      | .andNot => some (.int k (k.wrap (BitVec.ofInt k.bits a &&& ~~~BitVec.ofInt k.bits b).toNat))
      | .eql => some (.bool (a == b))
      | .neq => some (.bool (a != b))
      | .lss => some (.bool (a < b))
      | .leq => some (.bool (a ≤ b))
      | .gtr => some (.bool (a > b))
      | .geq => some (.bool (a ≥ b))
      | _ => none) else none
  | .string a, .string b => match op with
    | .add => if a.size + b.size ≤ 9223372036854775807 then some (.string (a ++ b)) else none
    | .eql => some (.bool (a.toList == b.toList))
    | .neq => some (.bool !(a.toList == b.toList))
    | .lss => some (.bool (Op.bytesLess a.toList b.toList))
    | .leq => some (.bool (Op.bytesLess a.toList b.toList || a.toList == b.toList))
    | .gtr => some (.bool !(Op.bytesLess a.toList b.toList || a.toList == b.toList))
    | .geq => some (.bool !(Op.bytesLess a.toList b.toList))
    | _ => none
  | _, _ => none
def unA : UnOp → Value → Option Value
  | .neg, .int k x => some (.int k (k.wrap (0 - x)))
  | .not, .bool b => some (.bool !b)
  | .xor, .int k x => some (.int k (k.wrap (BitVec.ofInt k.bits (if k.signed then -1 else k.max) ^^^ BitVec.ofInt k.bits x).toNat))
  | _, _ => none
/-- n cells in a row -/
def rdn (m : Mem) (id : Nat) : Nat → Nat → Option (List Value)
  | _, 0 => some []
  | off, k + 1 => match rdc m id off, rdn m id (off + 1) k with
    | some x, some xs => some (x :: xs)
    | _, _ => none
def ldA (m : Mem) (n : Option Nat) : Value → Option Value
  | .pointer (some ⟨id, off, none⟩) => match n with
    | none => rdc m id off
    | some k => match rdn m id off k with
      | some xs => some (.agg xs.toArray)
      | none => none
  | _ => none
def fldA (off : Nat) (n : Option Nat) : Value → Option Value
  | .agg cs => match n with
    | none => cs[off]?
    | some k => some (.agg (cs.extract off (off + k)))
  | _ => none
def fadA (off : Nat) : Value → Option Value
  | .pointer (some ⟨id, o, none⟩) => some (.pointer (some ⟨id, o + off, none⟩))
  | _ => none
def iadA (sz : Nat) : Value → Value → Option Value
  | .slice (some ⟨id, off, none⟩) n _, .int _ j => if 0 ≤ j ∧ j < n then some (.pointer (some ⟨id, off + j.toNat * sz, none⟩)) else none
  | _, _ => none
def iadaA (sz len : Nat) : Value → Value → Option Value
  | .pointer (some ⟨id, off, none⟩), .int _ j => if 0 ≤ j ∧ j < len then some (.pointer (some ⟨id, off + j.toNat * sz, none⟩)) else none
  | _, _ => none
def idxsA : Value → Value → Option Value
  | .string s, .int _ j => if 0 ≤ j then (match s[j.toNat]? with
    | some b => some (.int .u8 b.toNat)
    | none => none) else none
  | _, _ => none
def idxaA (sz len : Nat) (n : Option Nat) : Value → Value → Option Value
  | .agg cs, .int _ j => if 0 ≤ j ∧ j < len then (match n with
    | none => cs[j.toNat * sz]?
    | some k => some (.agg (cs.extract (j.toNat * sz) (j.toNat * sz + k)))) else none
  | _, _ => none
def boundA (d : Nat) : Option Value → Option Nat
  | none => some d
  | some (.int _ j) => if 0 ≤ j then some j.toNat else none
  | some _ => none
def slcA (sz : Nat) (x : Value) (lo hi : Option Value) : Option Value := match x with
  | .slice (some ⟨id, off, none⟩) n fl => match boundA 0 lo, boundA n hi with
    | some l, some h => if l ≤ h ∧ h ≤ n then some (.slice (some ⟨id, off + l * sz, none⟩) (h - l) (if lo.isNone then fl else 0)) else none
    | _, _ => none
  | .slice none 0 0 => match boundA 0 lo, boundA 0 hi with
    | some l, some h => if l ≤ h ∧ h ≤ 0 then some (.slice none 0 0) else none
    | _, _ => none
  | _ => none
def slcsA (x : Value) (lo hi : Option Value) : Option Value := match x with
  | .string s => match boundA 0 lo, boundA s.size hi with
    | some l, some h => if l ≤ h ∧ h ≤ s.size then some (.string (s.extract l h)) else none
    | _, _ => none
  | _ => none
/-- a slice of an array behind a pointer -/
def slcpA (sz len : Nat) (x : Value) (lo hi : Option Value) : Option Value := match x with
  | .pointer (some ⟨id, off, none⟩) => match boundA 0 lo, boundA len hi with
    | some l, some h => if l ≤ h ∧ h ≤ len then some (.slice (some ⟨id, off + l * sz, none⟩) (h - l) 0) else none
    | _, _ => none
  | _ => none
def lenA : Value → Option Value
  | .slice _ n _ => some (.int .i64 n)
  | _ => none
def lensA : Value → Option Value
  | .string s => some (.int .i64 s.size)
  | _ => none
def extA (i : Nat) : Value → Option Value
  | .tuple vs => vs[i]?
  | _ => none
def putL (cs : List Value) (off : Nat) : List Value → List Value
  | [] => cs
  | x :: xs => putL (cs.set off x) (off + 1) xs
def fillA (cs : List Value) : List (Nat × Nat × Value) → Option (List Value)
  | [] => some cs
  | (off, sz, v) :: rest => if v.cells.size = sz ∧ off + sz ≤ cs.length then fillA (putL cs off v.cells.toList) rest else none
def nilcA : Value → Option Value
  | .pointer (some a) => some (.pointer (some a))
  | .func (.func f) x y => some (.func (.func f) x y)
  | .iface t x => some (.iface t x)
  | _ => none
/-- Whether a slice is nil; of a slice without elements that is not nil by its text nothing is said. -/
def slnA (neg : Bool) : Value → Option Value
  | .slice none 0 0 => some (.bool (!neg))
  | .slice (some _) (_ + 1) _ => some (.bool neg)
  | _ => none
/-- Whether a pointer is nil. -/
def ptnA (neg : Bool) : Value → Option Value
  | .pointer none => some (.bool (!neg))
  | .pointer (some _) => some (.bool neg)
  | _ => none
/-- The capacity of a nil slice; of others nothing is said. -/
def cpzA : Value → Option Value
  | .slice none 0 0 => some (.int .i64 0)
  | _ => none
/-- The less or the greater one of two numbers. -/
def mmA (mx : Bool) : Value → Value → Option Value
  | .int k a, .int _ b => some (.int k (if mx then (if b > a then b else a) else (if b < a then b else a)))
  | _, _ => none
/-- Whether two rows of numbers are the same. -/
def intsEq : List Value → List Value → Option Bool
  | [], [] => some true
  | .int k a :: xs, .int k' b :: ys => if k = k' then (intsEq xs ys).map fun r => (a == b) && r else none
  | _, _ => none
def aeqA (neg : Bool) (n : Nat) (x y : Value) : Option Value := match x, y with
  | .agg xs, .agg ys => if xs.size = n ∧ ys.size = n then (intsEq xs.toList ys.toList).map fun r => .bool (if neg then !r else r) else none
  | _, _ => none
def flatI (P : Program) (e : TypeId) : Bool := match P.underlying e with
  | some (.int _) => P.cellsOf e == 1
  | _ => false
/-- The number of cells of an array or a struct of numbers alone. -/
def flatT (P : Program) (t : TypeId) : Option Nat := if P.eqGuardType P.depth t then none else match P.underlying t with
  | some (.array n e) => if flatI P e then some n else none
  | some (.struct fs) => if !P.stoodInHeld t && fs.toList.all (fun f => f.name != "_" && flatI P f.type) && fs.toList.map (·.offset) == List.range' 0 fs.toList.length then some fs.toList.length else none
  | _ => none
/-- What an operation yields that leaves memory alone. -/
def rdA (s : St) : AOp → Option Value
  | .mv x => some (s.ev x)
  | .pick c x y => match s.ev c with
    | .bool b => some (if b then s.ev x else s.ev y)
    | _ => none
  | .bin op x y => binA op (s.ev x) (s.ev y)
  | .beq neg x y => match s.ev x, s.ev y with
    | .bool p, .bool q => some (.bool (if neg then !(p == q) else (p == q)))
    | _, _ => none
  | .aeq neg k x y => aeqA neg k (s.ev x) (s.ev y)
  | .un op x => unA op (s.ev x)
  | .conv k x => match s.ev x with
    | .int _ j => some (.int k (k.wrap j))
    | _ => none
  | .ld k x => ldA s.m k (s.ev x)
  | .fld off k x => fldA off k (s.ev x)
  | .fad off x => fadA off (s.ev x)
  | .iad sz x i => iadA sz (s.ev x) (s.ev i)
  | .iada sz l x i => iadaA sz l (s.ev x) (s.ev i)
  | .idxs x i => idxsA (s.ev x) (s.ev i)
  | .idxa sz l k x i => idxaA sz l k (s.ev x) (s.ev i)
  | .slc sz x lo hi => slcA sz (s.ev x) (lo.map s.ev) (hi.map s.ev)
  | .slcs x lo hi => slcsA (s.ev x) (lo.map s.ev) (hi.map s.ev)
  | .slcp sz l x lo hi => slcpA sz l (s.ev x) (lo.map s.ev) (hi.map s.ev)
  | .len x => lenA (s.ev x)
  | .lens x => lensA (s.ev x)
  | .ext i x => extA i (s.ev x)
  | .mkf f first cap => some (.func (.func f) (first.map s.ev).toArray (cap.map s.ev).toArray)
  | .bld zero parts => match fillA zero (parts.map fun p => (p.1, p.2.1, s.ev p.2.2)) with
    | some cs => some (.agg cs.toArray)
    | none => none
  | .nilc x => nilcA (s.ev x)
  | .mif t x => some (.iface t (s.ev x))
  | .sln neg x => slnA neg (s.ev x)
  | .ptn neg x => ptnA neg (s.ev x)
  | .cpz x => cpzA (s.ev x)
  | .mmx mx x y => mmA mx (s.ev x) (s.ev y)
  | _ => none

/-- The parts of a struct or array at their places. -/
def partsAt (place : Nat → Option (Nat × Nat)) : List (Nat × Operand) → Option (List (Nat × Nat × Operand))
  | [] => some []
  | p :: ps => match place p.1, partsAt place ps with
    | some q, some qs => some ((q.1, q.2, p.2) :: qs)
    | _, _ => none
def shp (P : Program) (t : TypeId) : Option (Option Nat) := match P.underlying t with
  | some (.struct _) | some (.array _ _) => (P.info? t).map fun i => some i.size
  | some _ => some none
  | none => none
def sizeP (P : Program) (t : TypeId) : Option Nat := (P.info? t).map (·.size)
/-- The part of a struct that a path of fields leads to, no pointer being followed. -/
def followA (P : Program) : List FieldStep → TypeId → Value → Option (TypeId × Value)
  | [], t, v => some (t, v)
  | f :: rest, _, v => match P.underlying f.struct with
    | some (.struct fs) => match fs[f.index]? with
      | some fl => if f.deref then none else (match v, shp P fl.type with
        | .agg cs, some k => match fldA fl.offset k (.agg cs) with
          | some v' => followA P rest fl.type v'
          | none => none
        | _, _ => none)
      | none => none
    | _ => none
/-- The function and the receiver that a call through an interface value takes: a method of a value, not of a pointer. -/
def invA (P : Program) (name : String) : Value → Option (FuncId × Value)
  | .iface t v => match P.info? t with
    | some i => match i.methods.find? (·.name == name) with
      | some m => match m.func with
        | some (f, false) => match followA P m.path.toList t v with
          | some (xt, r) => match P.underlying xt with
            | some (.pointer _) => none
            | some _ => some (f, r)
            | none => none
          | none => none
        | _ => none
      | none => none
    | none => none
  | _ => none
def optOk (n : Nat) : Option Operand → Bool
  | none => true
  | some x => opdOk n x
def copLen (P : Program) (n : Nat) : Callee → List Operand → List TypeId → Option AOp
  | .builtin .len, [x], [t] => if opdOk n x then (match P.underlying t with
    | some .string => some (.lens x)
    | some (.slice _) => some (.len x)
    | _ => none) else none
  | .builtin .cap, [x], [t] => if opdOk n x then (match P.underlying t with
    | some (.slice _) => some (.cpz x)
    | _ => none) else none
  | .builtin .min, [x, y], _ => if opdOk n x && opdOk n y then some (.mmx false x y) else none
  | .builtin .max, [x, y], _ => if opdOk n x && opdOk n y then some (.mmx true x y) else none
  | _, _, _ => none
/-- The compiled form of an operation that leaves memory alone. -/
def copR (P : Program) (n : Nat) (o : Oper) : Option AOp := match o.op with
  | .move x | .assign x => if opdOk n x then some (.mv x) else none
  | .pick c x y => if opdOk n c && opdOk n x && opdOk n y then some (.pick c x y) else none
  | .binOp op t x y _ => if opdOk n x && opdOk n y then (match P.underlying t with
    | some .bool => if op == .eql then some (.beq false x y) else if op == .neq then some (.beq true x y) else none
    | some (.int _) | some .string => some (.bin op x y)
    | some (.slice _) => match y with
      | .const (.slice none 0 0) => if op == .eql then some (.sln false x) else if op == .neq then some (.sln true x) else none
      | _ => none
    | some (.pointer _) => match y with
      | .const (.pointer none) => if op == .eql then some (.ptn false x) else if op == .neq then some (.ptn true x) else none
      | _ => none
    | _ => if op == .eql then (flatT P t).map fun k => .aeq false k x y else if op == .neq then (flatT P t).map fun k => .aeq true k x y else none) else none
  | .unOp op _ x => if opdOk n x then some (.un op x) else none
  | .convert src dst x => if opdOk n x then (match P.underlying src, P.underlying dst with
    | some _, some (.int k) => some (.conv k x)
    | _, _ => none) else none
  | .load t x => if opdOk n x then (shp P t).map fun k => .ld k x else none
  | .field t x f => if opdOk n x then (match P.underlying t with
    | some (.struct fs) => (fs[f]?).bind fun f => (shp P f.type).map fun k => .fld f.offset k x
    | _ => none) else none
  | .fieldAddr t x f => if opdOk n x then (match P.underlying t with
    | some (.struct fs) => (fs[f]?).bind fun f => if (sizeP P f.type).getD 0 = 0 then none else some (.fad f.offset x)
    | _ => none) else none
  | .indexAddr t x i => if opdOk n x && opdOk n i then (match P.underlying t with
    | some (.slice e) => (sizeP P e).map fun sz => .iad sz x i
    | some (.array l e) => (sizeP P e).map fun sz => .iada sz l x i
    | _ => none) else none
  | .index t x i => if opdOk n x && opdOk n i then (match P.underlying t with
    | some .string => some (.idxs x i)
    | some (.array l e) => (sizeP P e).bind fun sz => (shp P e).map fun k => .idxa sz l k x i
    | _ => none) else none
  | .slice t x lo hi none => if opdOk n x && optOk n lo && optOk n hi then (match P.underlying t with
    | some (.slice e) => (sizeP P e).map fun sz => .slc sz x lo hi
    | some .string => some (.slcs x lo hi)
    | some (.array l e) => if l ≤ maxLen then (sizeP P e).map fun sz => .slcp sz l x lo hi else none
    | _ => none) else none
  | .extract x i => if opdOk n x then some (.ext i x) else none
  | .makeFunc (.func f) first cap => if first.all (opdOk n) && cap.all (opdOk n) then some (.mkf f first.toList cap.toList) else none
  | .nilCheck x => if opdOk n x then some (.nilc x) else none
  | .makeInterface t x => if opdOk n x then (match P.underlying t with
    | some (.interface _) => none
    | some _ => some (.mif t x)
    | none => none) else none
  | .call c => copLen P n c.callee c.args.toList c.argTypes.toList
  | .build t parts => if parts.all (fun p => opdOk n p.2) then (match P.underlying t, (P.info? t).bind (·.zero) with
    | some (.struct fs), some z => if z.cells.all constOk && fs.all (fun f => (sizeP P f.type).isSome) then
        (partsAt (fun i => (fs[i]?).map fun f => (f.offset, (sizeP P f.type).getD 0)) parts.toList).map fun ps => .bld z.cells.toList ps else none
    | some (.array _ e), some z => if z.cells.all constOk then (sizeP P e).bind fun sz => (partsAt (fun i => some (i * sz, sz)) parts.toList).map fun ps => .bld z.cells.toList ps else none
    | _, _ => none) else none
  | _ => none
theorem run_und {t : TypeId} {d : TypeDesc} (h : P.underlying t = some d) : (underlying t).run P w = .ok d w := by
  simp [underlying, program, Sem.run, h, go_sem]
theorem run_inf {t : TypeId} {i : TypeInfo} (h : P.info? t = some i) : (typeInfo t).run P w = .ok i w := by
  simp [typeInfo, h, go_sem]
theorem run_siz {t : TypeId} {k : Nat} (h : sizeP P t = some k) : (sizeOf t).run P w = .ok k w := by
  unfold sizeP at h
  cases hi : P.info? t with
  | none => rw [hi] at h; cases h
  | some i => rw [hi] at h; simp at h; simp [sizeOf, typeInfo, hi, go_sem, h]
theorem run_agg {t : TypeId} {k : Option Nat} (h : shp P t = some k) : (isAgg t).run P w = .ok k.isSome w ∧ ∀ j, k = some j → (sizeOf t).run P w = .ok j w := by
  unfold shp at h
  cases hu : P.underlying t with
  | none => rw [hu] at h; cases h
  | some d =>
    rw [hu] at h
    have hs : ∀ j, (P.info? t).map (fun i => some i.size) = some (some j) → (sizeOf t).run P w = .ok j w := fun j hj => by
      cases hi : P.info? t with
      | none => rw [hi] at hj; cases hj
      | some i => rw [hi] at hj; simp at hj; simp [sizeOf, typeInfo, hi, go_sem, hj]
    have hk : ∀ k, (P.info? t).map (fun i => some i.size) = some k → k.isSome = true := fun k hk => by
      cases hi : P.info? t with
      | none => rw [hi] at hk; cases hk
      | some i => rw [hi] at hk; simp at hk; rw [← hk]; rfl
    cases d <;> simp only [] at h <;> first
      | (refine ⟨?_, fun j hj => by subst hj; exact hs j h⟩; rw [hk k h]; simp [isAgg, run_und hu, go_sem])
      | (obtain rfl := Option.some.inj h; exact ⟨by simp [isAgg, run_und hu, go_sem], fun j hj => by cases hj⟩)
theorem binA_run {op : BinOp} {t : TypeId} {x y x' y' v : Value} {ox oy : Operand} (hx : VR ρ x x') (hy : VR ρ y y') (h : binA op x y = some v) :
    (do eqGuard op t ox oy x' y'; binOp op t x' y' : Sem Value).run P w = .ok v w ∧ VR ρ v v := by
  unfold binA at h
  split at h
  · rename_i k p k' q
    cases hx; cases hy
    have hg : (eqGuard op t ox oy (.int k p) (.int k' q)) = pure () := by
      unfold eqGuard; split <;> rfl
    rw [hg]
    split at h
    · split at h
      · cases h
      · rename_i hb; cases h; exact ⟨by simp [binOp, Op.shift, hb, go_sem], .int _ _⟩
    · split at h
      · cases h
      · rename_i hb; cases h; exact ⟨by simp [binOp, Op.shift, hb, go_sem], .int _ _⟩
    · rename_i h1 h2
      split at h
      · rename_i hk
        subst hk
        split at h
        · cases h; exact ⟨by simp [binOp, Op.intArith, go_sem], .int _ _⟩
        · cases h; exact ⟨by simp [binOp, Op.intArith, go_sem], .int _ _⟩
        · cases h; exact ⟨by simp [binOp, Op.intArith, go_sem], .int _ _⟩
        · split at h
          · cases h
          · rename_i hb; cases h; exact ⟨by simp [binOp, Op.intDiv, hb, go_sem], .int _ _⟩
        · split at h
          · cases h
          · rename_i hb; cases h; exact ⟨by simp [binOp, Op.intDiv, hb, go_sem], .int _ _⟩
        · cases h; exact ⟨by simp [binOp, Op.intBits, go_sem], .int _ _⟩
        · cases h; exact ⟨by simp [binOp, Op.intBits, go_sem], .int _ _⟩
        · cases h; exact ⟨by simp [binOp, Op.intBits, go_sem], .int _ _⟩
        · cases h; exact ⟨by simp [binOp, Op.intBits, go_sem], .int _ _⟩
        · cases h; exact ⟨by simp [binOp, Op.intCmp, go_sem], .bool _⟩
        · cases h; exact ⟨by simp [binOp, Op.intCmp, go_sem], .bool _⟩
        · cases h; exact ⟨by simp [binOp, Op.intCmp, go_sem], .bool _⟩
        · cases h; exact ⟨by simp [binOp, Op.intCmp, go_sem], .bool _⟩
        · cases h; exact ⟨by simp [binOp, Op.intCmp, go_sem], .bool _⟩
        · cases h; exact ⟨by simp [binOp, Op.intCmp, go_sem], .bool _⟩
        · cases h
      · cases h
  · rename_i p q
    cases hx; cases hy
    have hg : (eqGuard op t ox oy (.string p) (.string q)) = pure () := by
      unfold eqGuard; split <;> rfl
    rw [hg]
    split at h
    · split at h
      · rename_i hb
        cases h
        refine ⟨?_, .str _⟩
        have : ¬ (((p.size + q.size : Nat) : Int) > IntKind.i64.max) := by
          have e : IntKind.i64.max = 9223372036854775807 := by decide
          rw [e]; omega
        simp only [binOp, Op.stringOp]
        rw [if_neg this]
        rfl
      · cases h
    all_goals first | (cases h; exact ⟨by simp [binOp, Op.stringOp, go_sem], .bool _⟩) | cases h
  · cases h
theorem VR.bool_inv {b : Bool} {x : Value} (h : VR ρ (.bool b) x) : x = .bool b := by cases h; rfl
theorem VR.int_inv {k : IntKind} {j : Int} {x : Value} (h : VR ρ (.int k j) x) : x = .int k j := by cases h; rfl
theorem rdn_run (h : MRel W0 base ρ m w) {id b o tot : Nat} (hp : ρ[id]? = some (b, o, tot)) : ∀ (k off : Nat) (xs : List Value), rdn m id off k = some xs →
    ∃ ys, VL ρ xs ys ∧ ys.length = k ∧ ∀ (j : Nat) (y : Value), ys[j]? = some y → w.cell? ⟨b, o + off + j, none⟩ = some y := by
  intro k
  induction k with
  | zero => intro off xs hx; simp [rdn] at hx; subst hx; exact ⟨[], .nil _, rfl, fun j y hy => by cases hy⟩
  | succ k ih =>
    intro off xs hx
    simp only [rdn] at hx
    split at hx
    · rename_i x xs' h1 h2
      cases hx
      obtain ⟨y, hy, hv⟩ := h.load h1 hp
      obtain ⟨ys, hvl, hl, hc⟩ := ih (off + 1) xs' h2
      refine ⟨y :: ys, .cons hv hvl, by simp [hl], fun j z hz => ?_⟩
      cases j with
      | zero => simp at hz; subst hz; exact hy
      | succ j =>
        have := hc j z (by simpa using hz)
        rw [show o + off + (j + 1) = o + (off + 1) + j by omega]
        exact this
    · cases hx
theorem run_loadCells {b o : Nat} : ∀ (ys : List Value) (i : Nat) (acc : Array Value), (∀ (j : Nat) (y : Value), ys[j]? = some y → w.cell? ⟨b, o + i + j, none⟩ = some y) →
    (loadCellsFrom ⟨b, o, none⟩ i ys.length acc).run P w = .ok (acc ++ ys.toArray) w := by
  intro ys
  induction ys with
  | nil => intro i acc _; simp [loadCellsFrom, go_sem]
  | cons y ys ih =>
    intro i acc h
    have h0 := h 0 y rfl
    have ha : (⟨b, o, none⟩ : Addr).add i = ⟨b, o + i, none⟩ := by unfold Addr.add; split <;> simp_all
    have hl : (load (Addr.add ⟨b, o, none⟩ i)).run P w = .ok y w := by
      rw [ha]
      simp only [load, Sem.run]
      rw [show w.cell? ⟨b, o + i, none⟩ = some y from h0]
    have := ih (i + 1) (acc.push y) (fun j z hz => by have := h (j + 1) z (by simpa using hz); rw [show o + (i + 1) + j = o + i + (j + 1) by omega]; exact this)
    simp only [List.length_cons, loadCellsFrom, Sem.run_bind, hl, Result.andThen_ok, this]
    congr 1
    simp
theorem add_at (b o k : Nat) : (⟨b, o, none⟩ : Addr).add k = ⟨b, o + k, none⟩ := by unfold Addr.add; split <;> simp_all
theorem VR.slice_inv {id off k fl : Nat} {x : Value} (h : VR ρ (.slice (some ⟨id, off, none⟩) k fl) x) : ∃ b o tot c A, x = .slice A k c ∧ ρ[id]? = some (b, o, tot) ∧ k ≤ c ∧ c ≤ maxLen ∧
    (fl = 0 → 0 < k → A = some ⟨b, o + off, none⟩) ∧ (0 < fl → off + c * fl = tot ∧ (0 < tot → A = some ⟨b, o + off, none⟩)) := by
  cases h with
  | sl hp a b c d => exact ⟨_, _, _, _, _, rfl, hp, a, b, c, d⟩
theorem VR.slice_addr {off k fl b o tot c : Nat} {A : Option Addr} (hk : 0 < k) (hkc : k ≤ c) (h0 : fl = 0 → 0 < k → A = some ⟨b, o + off, none⟩) (h1 : 0 < fl → off + c * fl = tot ∧ (0 < tot → A = some ⟨b, o + off, none⟩)) : A = some ⟨b, o + off, none⟩ := by
  rcases Nat.eq_zero_or_pos fl with hf | hf
  · exact h0 hf hk
  · obtain ⟨e, h2⟩ := h1 hf
    refine h2 ?_
    have : 0 < c * fl := Nat.mul_pos (by omega) hf
    omega
theorem ldA_run {t : TypeId} {k : Option Nat} {x x' v : Value} (h : MRel W0 base ρ m w) (hs : shp P t = some k) (hx : VR ρ x x') (hv : ldA m k x = some v) :
    ∃ v', (Instr.loadAt t x').run P w = .ok v' w ∧ VR ρ v v' := by
  unfold ldA at hv
  split at hv
  · rename_i id off
    cases hx with
    | @ptr _ _ b o tot hp =>
    obtain ⟨ha, hsz⟩ := run_agg (w := w) hs
    cases k with
    | none =>
      simp only [] at hv
      obtain ⟨y, hy, hvr⟩ := h.load hv hp
      refine ⟨y, ?_, hvr⟩
      simp only [Instr.loadAt, Instr.sureAddr, loadVar, Sem.run_bind, Sem.run_pure, Result.andThen_ok, ha]
      simp only [Option.isSome, Bool.false_eq_true, if_false, load, Sem.run, hy]
    | some k =>
      simp only [] at hv
      split at hv
      · rename_i xs hxs
        cases hv
        obtain ⟨ys, hvl, hl, hc⟩ := rdn_run h hp k off xs hxs
        have hr := run_loadCells (P := P) (w := w) (b := b) (o := o + off) ys 0 #[] (fun j y hy => by simpa using hc j y hy)
        refine ⟨.agg ys.toArray, ?_, .agg (by simp [hvl.1]) (hvl.arr).2⟩
        rw [hl] at hr
        simp only [Instr.loadAt, Instr.sureAddr, loadVar, Sem.run_bind, Sem.run_pure, Result.andThen_ok, ha, loadCells]
        simp [hsz k rfl, hr, go_sem]
      · cases hv
  · cases hv
theorem VR.agg_inv {cs : Array Value} {x : Value} (h : VR ρ (.agg cs) x) : ∃ ds : Array Value, x = .agg ds ∧ cs.size = ds.size ∧ ∀ (i : Nat) (x y : Value), cs[i]? = some x → ds[i]? = some y → VR ρ x y := by
  cases h with
  | agg hs h => exact ⟨_, rfl, hs, h⟩
theorem arr_at {cs ds : Array Value} (hs : cs.size = ds.size) (h : ∀ (i : Nat) (x y : Value), cs[i]? = some x → ds[i]? = some y → VR ρ x y) {i : Nat} {x : Value} (hx : cs[i]? = some x) : ∃ y, ds[i]? = some y ∧ VR ρ x y := by
  have hi := (Array.getElem?_eq_some_iff.1 hx).1
  have hi2 : i < ds.size := by omega
  exact ⟨ds[i], Array.getElem?_eq_getElem hi2, h i x _ hx (Array.getElem?_eq_getElem hi2)⟩
theorem VR.extract {cs ds : Array Value} (hs : cs.size = ds.size) (h : ∀ (i : Nat) (x y : Value), cs[i]? = some x → ds[i]? = some y → VR ρ x y) (i j : Nat) : VR ρ (.agg (cs.extract i j)) (.agg (ds.extract i j)) := by
  refine .agg (by simp [hs]) fun k x y hx hy => ?_
  rw [Array.getElem?_extract] at hx hy
  rw [hs] at hx
  split at hx
  · rename_i hk
    rw [if_pos hk] at hy
    exact h _ x y hx hy
  · cases hx
theorem part_run {t : TypeId} {k : Option Nat} {cs ds : Array Value} {off : Nat} {v : Value} (hk : shp P t = some k) (hs : cs.size = ds.size) (h : ∀ (i : Nat) (x y : Value), cs[i]? = some x → ds[i]? = some y → VR ρ x y)
    (hv : fldA off k (.agg cs) = some v) : ∃ v', (part t ds off).run P w = .ok v' w ∧ VR ρ v v' := by
  obtain ⟨ha, hsz⟩ := run_agg (w := w) hk
  cases k with
  | none =>
    simp only [fldA] at hv
    obtain ⟨y, hy, hvr⟩ := arr_at hs h hv
    refine ⟨y, ?_, hvr⟩
    simp only [part, Sem.run_bind, Result.andThen_ok, ha]
    simp [hy, go_sem]
  | some k =>
    simp only [fldA] at hv
    cases hv
    refine ⟨_, ?_, VR.extract hs h off (off + k)⟩
    simp only [part, Sem.run_bind, Result.andThen_ok, ha]
    simp [go_sem, hsz k rfl]
theorem fill_go {place : Nat → Option (Nat × Nat)} : ∀ (ps : List (Nat × Nat × Nat × Value × Value)) (cs ds xs : List Value), VL ρ cs ds →
    (∀ p ∈ ps, place p.1 = some (p.2.1, p.2.2.1) ∧ VR ρ p.2.2.2.1 p.2.2.2.2) → fillA cs (ps.map fun p => (p.2.1, p.2.2.1, p.2.2.2.1)) = some xs →
    ∃ ys : Array Value, Instr.fill place ds.toArray (ps.map fun p => (p.1, p.2.2.2.2)) = some ys ∧ VL ρ xs ys.toList := by
  have put1 : ∀ (as bs : List Value), VL ρ as bs → ∀ (cs ds : List Value) (off j : Nat), VL ρ cs ds →
      ∃ es : Array Value, (bs.zipIdx j).foldl (fun (cs : Array Value) (p : Value × Nat) => cs.setIfInBounds (off + p.2) p.1) ds.toArray = es ∧ VL ρ (putL cs (off + j) as) es.toList ∧ (putL cs (off + j) as).length = cs.length := by
    intro as
    induction as with
    | nil =>
      intro bs h cs ds off j hcd
      have : bs = [] := List.eq_nil_of_length_eq_zero (by rw [← h.1]; rfl)
      subst this
      exact ⟨_, rfl, by simpa [putL] using hcd, rfl⟩
    | cons x as ih =>
      intro bs h cs ds off j hcd
      cases bs with
      | nil => exact absurd h.1 (by simp)
      | cons y bs =>
        have hv : VR ρ x y := h.2 0 x y rfl rfl
        have ht : VL ρ as bs := ⟨by have := h.1; simpa using this, fun i a b ha hb => h.2 (i + 1) a b (by simpa using ha) (by simpa using hb)⟩
        have hset : VL ρ (cs.set (off + j) x) (ds.set (off + j) y) := by
          refine ⟨by simp [hcd.1], fun i a b ha hb => ?_⟩
          rw [List.getElem?_set] at ha hb
          rw [← hcd.1] at hb
          by_cases e : off + j = i
          · rw [if_pos e] at ha hb
            split at ha
            · rw [if_pos ‹_›] at hb; cases ha; cases hb; exact hv
            · cases ha
          · rw [if_neg e] at ha hb; exact hcd.2 i a b ha hb
        obtain ⟨es, he, hl, hlen⟩ := ih bs ht (cs.set (off + j) x) (ds.set (off + j) y) off (j + 1) hset
        refine ⟨es, ?_, by simpa [putL, Nat.add_assoc] using hl, by simpa [putL, Nat.add_assoc] using hlen⟩
        simpa [List.zipIdx_cons] using he
  intro ps
  induction ps with
  | nil => intro cs ds xs hcd _ hx; simp [fillA] at hx; subst hx; exact ⟨_, rfl, by simpa using hcd⟩
  | cons p ps ih =>
    intro cs ds xs hcd hp hx
    obtain ⟨i, off, sz, v, v'⟩ := p
    obtain ⟨hpl, hv⟩ := hp (i, off, sz, v, v') (by simp)
    simp only [List.map_cons, fillA] at hx
    split at hx
    · rename_i hc
      have hcells := hv.cells
      obtain ⟨es, he, hl, hlen⟩ := put1 v.cells.toList v'.cells.toList hcells cs ds off 0 hcd
      obtain ⟨ys, hy, hvl⟩ := ih _ es.toList xs (by simpa using hl) (fun q hq => hp q (by simp [hq])) hx
      refine ⟨ys, ?_, hvl⟩
      have hsz : v'.cells.size = sz := by have := hcells.1; simp at this; omega
      simp only [List.map_cons, Instr.fill, hpl]
      rw [if_neg (by simp only [List.size_toArray, ← hcd.1, hsz]; simp; omega)]
      rw [← Array.foldl_toList, Array.toList_zipIdx]
      have he' : (v'.cells.toList.zipIdx).foldl (fun (cs : Array Value) (x : Value × Nat) => match x with
          | (c, j) => cs.setIfInBounds (off + j) c) ds.toArray = es := he
      rw [he']
      simpa using hy
    · cases hx
theorem fill_parts (h : SRel lw W0 base ρ n s a w) {place : Nat → Option (Nat × Nat)} {parts : List (Nat × Operand)} {ps : List (Nat × Nat × Operand)} {zs xs : List Value} (hok : parts.all (fun p => opdOk n p.2) = true)
    (hp : partsAt place parts = some ps) (hz : VL ρ zs zs) (hx : fillA zs (ps.map fun p => (p.1, p.2.1, s.ev p.2.2)) = some xs) :
    ∃ ys : Array Value, Instr.fill place zs.toArray (parts.map fun p => (p.1, a.eval p.2)) = some ys ∧ VL ρ xs ys.toList := by
  have key : ∀ (parts : List (Nat × Operand)) (ps : List (Nat × Nat × Operand)), parts.all (fun p => opdOk n p.2) = true → partsAt place parts = some ps →
      ∃ qs : List (Nat × Nat × Nat × Value × Value), (∀ q ∈ qs, place q.1 = some (q.2.1, q.2.2.1) ∧ VR ρ q.2.2.2.1 q.2.2.2.2) ∧ (ps.map fun p => (p.1, p.2.1, s.ev p.2.2)) = (qs.map fun p => (p.2.1, p.2.2.1, p.2.2.2.1)) ∧
        (parts.map fun p => (p.1, a.eval p.2)) = (qs.map fun p => (p.1, p.2.2.2.2)) := by
    intro parts
    induction parts with
    | nil => intro ps _ hp; simp [partsAt] at hp; subst hp; exact ⟨[], by simp, rfl, rfl⟩
    | cons p parts ih =>
      intro ps hok hp
      simp only [List.all_cons, Bool.and_eq_true] at hok
      simp only [partsAt] at hp
      split at hp
      · rename_i q qs h1 h2
        cases hp
        obtain ⟨rs, hr, e1, e2⟩ := ih qs hok.2 h2
        refine ⟨(p.1, q.1, q.2, s.ev p.2, a.eval p.2) :: rs, ?_, by simp [e1], by simp [e2]⟩
        intro r hr'
        rcases List.mem_cons.1 hr' with rfl | hr'
        · exact ⟨h1, h.ev hok.1⟩
        · exact hr r hr'
      · cases hp
  obtain ⟨qs, hq, e1, e2⟩ := key parts ps hok hp
  rw [e1] at hx
  rw [e2]
  exact fill_go qs zs zs xs hz hq hx
theorem VL.consts {zs : List Value} (h : zs.all constOk = true) : VL ρ zs zs :=
  ⟨rfl, fun i x y hx hy => by rw [hx] at hy; cases hy; exact VR.const (List.all_eq_true.1 h x (List.mem_of_getElem? hx))⟩
theorem bound_run {d y : Nat} {o : Option Operand} {l : Nat} {code : BoundsCode} (h : SRel lw W0 base ρ n s a w) (ho : optOk n o = true) (hl : boundA d (o.map s.ev) = some l) (hy : l ≤ y) :
    (o = none ∧ l = d) ∨ (∃ v, (o.map a.eval) = some v ∧ ∀ code, (Instr.sliceBound v y code).run P w = .ok l w) := by
  cases o with
  | none => simp [boundA] at hl; exact .inl ⟨rfl, hl.symm⟩
  | some x =>
    refine .inr ⟨a.eval x, rfl, fun code => ?_⟩
    have hv := h.ev (x := x) ho
    simp only [Option.map_some] at hl
    unfold boundA at hl
    split at hl
    · rename_i hn; cases hn
    · rename_i k j hn
      obtain hn := Option.some.inj hn
      rw [hn] at hv
      rw [hv.int_inv]
      split at hl
      · rename_i hj
        cases hl
        have : 0 ≤ j ∧ j ≤ (y : Int) := ⟨hj, by omega⟩
        simp [Instr.sliceBound, asIntOf, go_sem, this]
      · cases hl
    · cases hl
theorem bounds_run {isS : Bool} {k c : Nat} {lo hi : Option Operand} {l j : Nat} (h : SRel lw W0 base ρ n s a w) (hlo : optOk n lo = true) (hhi : optOk n hi = true) (hl : boundA 0 (lo.map s.ev) = some l) (hh : boundA k (hi.map s.ev) = some j)
    (h1 : l ≤ j) (h2 : j ≤ k) (hkc : k ≤ c) : (Instr.sliceBounds isS k c (lo.map a.eval) (hi.map a.eval) none).run P w = .ok (l, j, c) w := by
  unfold Instr.sliceBounds
  rcases bound_run (P := P) (code := .index) h hhi hh (show j ≤ c by omega) with ⟨rfl, rfl⟩ | ⟨v, hv, hr⟩ <;>
    rcases bound_run (P := P) (code := .index) h hlo hl (show l ≤ j by omega) with ⟨rfl, rfl⟩ | ⟨u, hu, hr2⟩
  · simp [go_sem]
  · rw [hu]; simp [go_sem, hr2]
  · rw [hv]; simp [go_sem, hr]
  · rw [hv, hu]; simp [go_sem, hr, hr2]
theorem flatI_inv {P : Program} {e : TypeId} (h : flatI P e = true) : (∃ q, P.underlying e = some (.int q)) ∧ P.cellsOf e = 1 ∧ P.plainKey e = true := by
  unfold flatI at h
  split at h
  · rename_i q hu
    exact ⟨⟨q, hu⟩, by simpa using h, by simp [Program.plainKey, hu]⟩
  · cases h
theorem eqI_run {P : Program} {w : World} {e : TypeId} (h : flatI P e = true) (d : Nat) (k : IntKind) (a b : Int) : (Op.equalIn (d + 1) e (.int k a) (.int k b)).run P w = .ok (a == b) w := by
  obtain ⟨⟨q, hu⟩, -, -⟩ := flatI_inv h
  simp only [Op.equalIn, Sem.run_bind, run_underlying hu, Result.andThen_ok, if_true, Sem.run_pure]
theorem drop_cons {l l1 : List Value} {v : Value} {k : Nat} (h : l.drop k = v :: l1) : l[k]? = some v ∧ l.drop (k + 1) = l1 := by
  constructor
  · have := List.getElem?_drop (xs := l) (i := k) (j := 0)
    rw [h] at this
    simpa using this.symm
  · rw [← List.drop_drop, h]
    rfl
theorem intsEq_cons {l1 l2 : List Value} {v1 v2 : Value} {r : Bool} (h : intsEq (v1 :: l1) (v2 :: l2) = some r) : ∃ k a b r', v1 = .int k a ∧ v2 = .int k b ∧ intsEq l1 l2 = some r' ∧ r = ((a == b) && r') := by
  cases v1 <;> cases v2 <;> simp only [intsEq] at h <;> try (cases h; done)
  rename_i k a k' b
  split at h
  · rename_i e
    subst e
    obtain ⟨r', h1, h2⟩ := Option.map_eq_some_iff.1 h
    exact ⟨_, _, _, r', rfl, rfl, h1, h2.symm⟩
  · cases h
theorem eqItems_flat {P : Program} {w : World} {e : TypeId} (h : flatI P e = true) (d : Nat) (xs ys : Array Value) : ∀ (l1 l2 : List Value) (k : Nat) (r : Bool), xs.toList.drop k = l1 → ys.toList.drop k = l2 → intsEq l1 l2 = some r →
    (Op.eqItems (d + 1) e (P.cellsOf e) xs ys (List.range' k l1.length)).run P w = .ok r w
  | [], [], k, r, _, _, hr => by
    cases hr
    rfl
  | [], _ :: _, k, r, _, _, hr => by cases hr
  | v :: _, [], k, r, _, _, hr => by cases v <;> cases hr
  | v1 :: l1, v2 :: l2, k, r, h1, h2, hr => by
    obtain ⟨q, a, b, r', rfl, rfl, hr', rfl⟩ := intsEq_cons hr
    obtain ⟨-, hc, hp⟩ := flatI_inv h
    obtain ⟨g1, d1⟩ := drop_cons h1
    obtain ⟨g2, d2⟩ := drop_cons h2
    have ih := eqItems_flat (w := w) h d xs ys l1 l2 (k + 1) r' d1 d2 hr'
    have p1 := run_part_plain w hp (off := k * P.cellsOf e) (xs := xs) (by rw [hc, Nat.mul_one, ← Array.getElem?_toList]; exact g1)
    have p2 := run_part_plain w hp (off := k * P.cellsOf e) (xs := ys) (by rw [hc, Nat.mul_one, ← Array.getElem?_toList]; exact g2)
    simp only [List.length_cons, List.range'_succ, Op.eqItems, Sem.run_bind, p1, p2, eqI_run h, Result.andThen_ok]
    cases hab : (a == b) with
    | false => simp
    | true => simpa using ih
theorem eqFields_flat {P : Program} {w : World} (d : Nat) (xs ys : Array Value) : ∀ (fs : List Field) (l1 l2 : List Value) (k : Nat) (r : Bool), (∀ f ∈ fs, f.name ≠ "_" ∧ flatI P f.type = true) → fs.map (·.offset) = List.range' k fs.length → l1.length = fs.length →
    xs.toList.drop k = l1 → ys.toList.drop k = l2 → intsEq l1 l2 = some r → (Op.eqFields (d + 1) xs ys fs).run P w = .ok r w
  | [], l1, l2, k, r, _, _, hl, h1, h2, hr => by
    have : l1 = [] := List.length_eq_zero_iff.1 hl
    subst this
    cases l2 with
    | nil => cases hr; rfl
    | cons _ _ => cases hr
  | f :: fs, l1, l2, k, r, hall, ho, hl, h1, h2, hr => by
    match l1, hl with
    | v1 :: l1, hl =>
    match l2 with
    | [] => cases v1 <;> cases hr
    | v2 :: l2 =>
      obtain ⟨q, a, b, r', rfl, rfl, hr', rfl⟩ := intsEq_cons hr
      obtain ⟨hn, h⟩ := hall f (by simp)
      obtain ⟨-, hc, hp⟩ := flatI_inv h
      obtain ⟨g1, d1⟩ := drop_cons h1
      obtain ⟨g2, d2⟩ := drop_cons h2
      simp only [List.map_cons, List.length_cons, List.range'_succ, List.cons.injEq] at ho
      have ih := eqFields_flat (w := w) d xs ys fs l1 l2 (k + 1) r' (fun g hg => hall g (by simp [hg])) ho.2 (by simpa using hl) d1 d2 hr'
      have p1 := run_part_plain w hp (off := f.offset) (xs := xs) (by rw [ho.1, ← Array.getElem?_toList]; exact g1)
      have p2 := run_part_plain w hp (off := f.offset) (xs := ys) (by rw [ho.1, ← Array.getElem?_toList]; exact g2)
      simp only [Op.eqFields, hn, ne_eq, not_false_eq_true, if_true, Sem.run_bind, p1, p2, eqI_run h, Result.andThen_ok]
      cases hab : (a == b) with
      | false => simp
      | true => simpa using ih
theorem flat_run {P : Program} {w : World} {t : TypeId} {n : Nat} (h : flatT P t = some n) {xs ys : Array Value} {r : Bool} (hx : xs.size = n) (hr : intsEq xs.toList ys.toList = some r) : P.eqGuardType P.depth t = false ∧ (Op.equalIn 10000 t (.agg xs) (.agg ys)).run P w = .ok r w := by
  unfold flatT at h
  split at h
  · cases h
  · rename_i hg
    refine ⟨by simpa using hg, ?_⟩
    split at h
    · rename_i m e hu
      split at h
      · rename_i hf
        cases h
        obtain ⟨⟨q, hq⟩, -, -⟩ := flatI_inv hf
        obtain ⟨i, hi⟩ := info_of_underlying hq
        rw [show (10000 : Nat) = 9999 + 1 from rfl, run_equalIn_array w 9999 xs ys hu hi]
        have := eqItems_flat (w := w) hf 9998 xs ys xs.toList ys.toList 0 r rfl rfl hr
        rw [Array.length_toList, hx, ← List.range_eq_range'] at this
        exact this
      · cases h
    · rename_i fs hu
      split at h
      · rename_i hf
        cases h
        simp only [Bool.and_eq_true, List.all_eq_true, beq_iff_eq, Bool.not_eq_true', bne_iff_ne, ne_eq] at hf
        have hfs : P.fieldsOf t = fs := by simp [Program.fieldsOf, hu]
        rw [show (10000 : Nat) = 9999 + 1 from rfl, run_equalIn_struct w 9999 t xs ys (by rw [hfs]; exact hu) hf.1.1, hfs]
        exact eqFields_flat 9998 xs ys fs.toList xs.toList ys.toList 0 r hf.1.2 hf.2 (by simpa using hx) rfl rfl hr
      · cases h
    · cases h
theorem intsEq_ints : ∀ {l1 l2 : List Value} {r : Bool}, intsEq l1 l2 = some r → (∀ (i : Nat) (v : Value), l1[i]? = some v → ∃ k a, v = .int k a) ∧ (∀ (i : Nat) (v : Value), l2[i]? = some v → ∃ k a, v = .int k a)
  | [], [], _, _ => ⟨fun i v h => by simp at h, fun i v h => by simp at h⟩
  | [], _ :: _, _, h => by cases h
  | v :: _, [], _, h => by cases v <;> cases h
  | v1 :: l1, v2 :: l2, r, h => by
    obtain ⟨k, a, b, r', rfl, rfl, h', -⟩ := intsEq_cons h
    obtain ⟨i1, i2⟩ := intsEq_ints h'
    constructor
    · intro i v hv
      cases i with
      | zero => cases hv; exact ⟨_, _, rfl⟩
      | succ i => exact i1 i v (by simpa using hv)
    · intro i v hv
      cases i with
      | zero => cases hv; exact ⟨_, _, rfl⟩
      | succ i => exact i2 i v (by simpa using hv)
theorem ints_same {ρ : Places} {xs us : Array Value} (h : ∀ (i : Nat) (v : Value), xs.toList[i]? = some v → ∃ k a, v = .int k a) (hs : xs.size = us.size) (hp : ∀ (i : Nat) (x y : Value), xs[i]? = some x → us[i]? = some y → VR ρ x y) : xs = us := by
  apply Array.ext hs
  intro i h1 h2
  have g1 : xs[i]? = some xs[i] := Array.getElem?_eq_getElem h1
  have g2 : us[i]? = some us[i] := Array.getElem?_eq_getElem h2
  obtain ⟨k, a, e⟩ := h i xs[i] (by rw [Array.getElem?_toList]; exact g1)
  have hv := hp i _ _ g1 g2
  rw [e] at hv ⊢
  exact hv.int_inv.symm
theorem intsEq_left {ρ : Places} {xs ys us : Array Value} {r : Bool} (h : intsEq xs.toList ys.toList = some r) (hs : xs.size = us.size) (hp : ∀ (i : Nat) (x y : Value), xs[i]? = some x → us[i]? = some y → VR ρ x y) : xs = us := ints_same (intsEq_ints h).1 hs hp
theorem intsEq_right {ρ : Places} {xs ys us : Array Value} {r : Bool} (h : intsEq xs.toList ys.toList = some r) (hs : ys.size = us.size) (hp : ∀ (i : Nat) (x y : Value), ys[i]? = some x → us[i]? = some y → VR ρ x y) : ys = us := ints_same (intsEq_ints h).2 hs hp
theorem equal_bool {t : TypeId} (hu : P.underlying t = some .bool) (p q : Bool) : (Op.equal t (.bool p) (.bool q)).run P w = .ok (p == q) w := by
  have : ∀ d, (Op.equalIn (d + 1) t (.bool p) (.bool q)).run P w = .ok (p == q) w := fun d => by
    simp only [Op.equalIn, Sem.run_bind, run_und hu, Result.andThen_ok]
    rfl
  exact this 9999
theorem equal_nil {t e : TypeId} (hu : P.underlying t = some (.slice e)) (A : Option Addr) (k c : Nat) : (Op.equal t (.slice A k c) (.slice none 0 0)).run P w = .ok A.isNone w := by
  have : ∀ d, (Op.equalIn (d + 1) t (.slice A k c) (.slice none 0 0)).run P w = .ok A.isNone w := fun d => by
    simp only [Op.equalIn, Sem.run_bind, run_und hu, Result.andThen_ok]
    cases A <;> rfl
  exact this 9999
theorem equal_nilp {t e : TypeId} (hu : P.underlying t = some (.pointer e)) (A : Option Addr) : (Op.equal t (.pointer A) (.pointer none)).run P w = .ok A.isNone w := by
  have : ∀ d, (Op.equalIn (d + 1) t (.pointer A) (.pointer none)).run P w = .ok A.isNone w := fun d => by
    simp only [Op.equalIn, Sem.run_bind, run_und hu, Result.andThen_ok]
    cases A <;> rfl
  exact this 9999
theorem run_v {S : Sem Value} {v : Value} {w' : World} (h : S.run P w = .ok v w') : (do pure (.value (← S)) : Sem Next).run P w = .ok (.value v) w' := by
  simp only [Sem.run_bind, h, Result.andThen_ok, Sem.run_pure]
theorem mapM_places {fs : List Field} (h : fs.all (fun f => (sizeP P f.type).isSome) = true) : ((fs.mapM fun (f : Field) => (do pure (f.offset, ← sizeOf f.type) : Sem (Nat × Nat)))).run P w = .ok (fs.map fun f => (f.offset, (sizeP P f.type).getD 0)) w := by
  induction fs with
  | nil => simp [go_sem]
  | cons f fs ih =>
    simp only [List.all_cons, Bool.and_eq_true] at h
    obtain ⟨h1, h2⟩ := h
    obtain ⟨k, hk⟩ := Option.isSome_iff_exists.1 h1
    have := ih h2
    rw [List.mapM_cons]
    simp only [Sem.run_bind, this, run_siz hk, Result.andThen_ok, Sem.run_pure, List.map_cons, hk, Option.getD_some]
theorem evs_rel (h : SRel lw W0 base ρ n s a w) {xs : List Operand} (hx : xs.all (opdOk n) = true) : VL ρ (xs.map s.ev) (xs.map a.eval) := by
  induction xs with
  | nil => exact VL.nil _
  | cons x xs ih =>
    simp only [List.all_cons, Bool.and_eq_true] at hx
    exact .cons (h.ev hx.1) (ih hx.2)

/-- What the compiled form yields, the operation yields. -/
theorem rd_sound {o : Oper} {x : AOp} {v : Value} (h : SRel lw W0 base ρ n s a w) (hc : copR P n o = some x) (hv : rdA s x = some v) :
    ∃ v', (execOp a.eval o).run P w = .ok (.value v') w ∧ VR ρ v v' := by
  obtain ⟨dst, op, ty, pos, after, guard⟩ := o
  cases op with
  | move y =>
    simp only [copR] at hc
    split at hc
    · cases hc; simp only [rdA] at hv; cases hv
      exact ⟨_, by simp [execOp, go_sem], h.ev ‹_›⟩
    · cases hc
  | assign y =>
    simp only [copR] at hc
    split at hc
    · cases hc; simp only [rdA] at hv; cases hv
      exact ⟨_, by simp [execOp, go_sem], h.ev ‹_›⟩
    · cases hc
  | pick c y z =>
    simp only [copR, Bool.and_eq_true] at hc
    split at hc
    · rename_i hok
      cases hc
      simp only [rdA] at hv
      split at hv
      · rename_i b hb
        cases hv
        have hcv := h.ev hok.1.1
        rw [hb] at hcv
        have e1 := h.ev hok.1.2
        have e2 := h.ev hok.2
        simp only [execOp]
        generalize a.eval c = cv at *
        generalize a.eval y = yv at *
        generalize a.eval z = zv at *
        obtain rfl := hcv.bool_inv
        cases b with
        | true => exact ⟨yv, by simp [go_sem, asBool], e1⟩
        | false => exact ⟨zv, by simp [go_sem, asBool], e2⟩
      · cases hv
    · cases hc
  | binOp op t y z t2 =>
    simp only [copR, Bool.and_eq_true] at hc
    split at hc
    · rename_i hok
      have hy := h.ev hok.1
      have hz := h.ev hok.2
      have hbool : ∀ (neg : Bool), P.underlying t = some .bool → (op = if neg then .neq else .eql) → x = .beq neg y z → ∃ v', (execOp a.eval ⟨dst, .binOp op t y z t2, ty, pos, after, guard⟩).run P w = .ok (.value v') w ∧ VR ρ v v' := by
        intro neg hu ho hx
        subst hx
        simp only [rdA] at hv
        split at hv
        · rename_i p q hp hq
          cases hv
          rw [hp] at hy
          rw [hq] at hz
          have hg : (eqGuard op t y z (.bool p) (.bool q)) = pure () := by
            unfold eqGuard; split <;> rfl
          have he := equal_bool (w := w) hu p q
          cases neg with
          | true =>
            simp only [if_true] at ho
            subst ho
            refine ⟨_, ?_, .bool _⟩
            simp only [execOp, hy.bool_inv, hz.bool_inv, hg]
            simp [binOp, go_sem, he]
          | false =>
            simp only [Bool.false_eq_true, if_false] at ho
            subst ho
            refine ⟨_, ?_, .bool _⟩
            simp only [execOp, hy.bool_inv, hz.bool_inv, hg]
            simp [binOp, go_sem, he]
        · cases hv
      have haeq : ∀ (neg : Bool) (k : Nat), flatT P t = some k → (op = if neg then .neq else .eql) → x = .aeq neg k y z → ∃ v', (execOp a.eval ⟨dst, .binOp op t y z t2, ty, pos, after, guard⟩).run P w = .ok (.value v') w ∧ VR ρ v v' := by
        intro neg k hk ho hx
        subst hx
        simp only [rdA] at hv
        unfold aeqA at hv
        split at hv
        · rename_i xs ys hp hq
          split at hv
          · rename_i hsz
            obtain ⟨r, hr, rfl⟩ := Option.map_eq_some_iff.1 hv
            rw [hp] at hy
            rw [hq] at hz
            obtain ⟨us, hu1, hu2, hu3⟩ := hy.agg_inv
            obtain ⟨vs, hv1, hv2, hv3⟩ := hz.agg_inv
            have e1 : xs = us := intsEq_left hr hu2 hu3
            have e2 : ys = vs := intsEq_right hr hv2 hv3
            subst e1
            subst e2
            obtain ⟨hg, he⟩ := flat_run (w := w) hk hsz.1 hr
            have hgr := run_eqGuard_agg w op t y z xs ys hg
            cases neg with
            | true =>
              simp only [if_true] at ho
              subst ho
              refine ⟨_, ?_, .bool _⟩
              simp only [execOp, hu1, hv1, Sem.run_bind, hgr, Result.andThen_ok, run_neq_struct, he, if_true, Sem.run_pure]
            | false =>
              simp only [Bool.false_eq_true, if_false] at ho
              subst ho
              refine ⟨_, ?_, .bool _⟩
              simp only [execOp, hu1, hv1, Sem.run_bind, hgr, Result.andThen_ok, run_eql_struct, he, Bool.false_eq_true, if_false, Sem.run_pure]
          · cases hv
        · cases hv
      have hsln : ∀ (neg : Bool) (e : TypeId), P.underlying t = some (.slice e) → (op = if neg then .neq else .eql) → z = .const (.slice none 0 0) ∧ x = .sln neg y → ∃ v', (execOp a.eval ⟨dst, .binOp op t y z t2, ty, pos, after, guard⟩).run P w = .ok (.value v') w ∧ VR ρ v v' := by
        rintro neg e hu ho ⟨hz0, hx⟩
        subst hx
        subst hz0
        simp only [rdA] at hv
        have hez : a.eval (.const (.slice none 0 0)) = .slice none 0 0 := rfl
        have key : ∀ (A : Option Addr) (k c : Nat), a.eval y = .slice A k c → v = .bool (if neg then !A.isNone else A.isNone) → ∃ v', (execOp a.eval ⟨dst, .binOp op t y (.const (.slice none 0 0)) t2, ty, pos, after, guard⟩).run P w = .ok (.value v') w ∧ VR ρ v v' := by
          intro A k c he hvv
          subst hvv
          refine ⟨_, ?_, .bool _⟩
          have hg : (eqGuard op t y (.const (.slice none 0 0)) (.slice A k c) (.slice none 0 0)) = pure () := by
            unfold eqGuard; split <;> rfl
          have hq := equal_nil (w := w) hu A k c
          cases neg with
          | true =>
            simp only [if_true] at ho
            subst ho
            simp only [execOp, he, hez, hg]
            simp [binOp, go_sem, hq]
          | false =>
            simp only [Bool.false_eq_true, if_false] at ho
            subst ho
            simp only [execOp, he, hez, hg]
            simp [binOp, go_sem, hq]
        unfold slnA at hv
        split at hv
        · rename_i he
          rw [he] at hy
          cases hv
          refine key none 0 0 ?_ (by cases neg <;> rfl)
          generalize a.eval y = yv at hy
          cases hy; rfl
        · rename_i ad k fl he
          rw [he] at hy
          cases hv
          have : ∃ A c, a.eval y = .slice A (k + 1) c ∧ A.isNone = false := by
            generalize a.eval y = yv at hy
            cases hy with
            | sl hp h1 h2 h3 h4 =>
              rcases Nat.eq_zero_or_pos fl with hf | hf
              · exact ⟨_, _, rfl, by rw [h3 hf (by omega)]; rfl⟩
              · obtain ⟨e1, e2⟩ := h4 hf
                refine ⟨_, _, rfl, ?_⟩
                rw [e2 (by rename_i c _; have : 0 < c * fl := Nat.mul_pos (by omega) hf; omega)]
                rfl
          obtain ⟨A, c, e1, e2⟩ := this
          exact key A (k + 1) c e1 (by rw [e2]; cases neg <;> rfl)
        · cases hv
      have hptn : ∀ (neg : Bool) (e : TypeId), P.underlying t = some (.pointer e) → (op = if neg then .neq else .eql) → z = .const (.pointer none) ∧ x = .ptn neg y → ∃ v', (execOp a.eval ⟨dst, .binOp op t y z t2, ty, pos, after, guard⟩).run P w = .ok (.value v') w ∧ VR ρ v v' := by
        rintro neg e hu ho ⟨hz0, hx⟩
        subst hx
        subst hz0
        simp only [rdA] at hv
        have hez : a.eval (.const (.pointer none)) = .pointer none := rfl
        have key : ∀ (A : Option Addr), a.eval y = .pointer A → v = .bool (if neg then !A.isNone else A.isNone) → ∃ v', (execOp a.eval ⟨dst, .binOp op t y (.const (.pointer none)) t2, ty, pos, after, guard⟩).run P w = .ok (.value v') w ∧ VR ρ v v' := by
          intro A he hvv
          subst hvv
          refine ⟨_, ?_, .bool _⟩
          have hg : (eqGuard op t y (.const (.pointer none)) (.pointer A) (.pointer none)) = pure () := by
            unfold eqGuard; split <;> rfl
          have hq := equal_nilp (w := w) hu A
          cases neg with
          | true =>
            simp only [if_true] at ho
            subst ho
            simp only [execOp, he, hez, hg]
            simp [binOp, go_sem, hq]
          | false =>
            simp only [Bool.false_eq_true, if_false] at ho
            subst ho
            simp only [execOp, he, hez, hg]
            simp [binOp, go_sem, hq]
        unfold ptnA at hv
        split at hv
        · rename_i he
          rw [he] at hy
          cases hv
          refine key none ?_ (by cases neg <;> rfl)
          generalize a.eval y = yv at hy
          cases hy; rfl
        · rename_i ad he
          rw [he] at hy
          cases hv
          have : ∃ A, a.eval y = .pointer A ∧ A.isNone = false := by
            generalize a.eval y = yv at hy
            cases hy
            exact ⟨_, rfl, rfl⟩
          obtain ⟨A, e1, e2⟩ := this
          exact key A e1 (by rw [e2]; cases neg <;> rfl)
        · cases hv
      have hbin : x = .bin op y z → ∃ v', (execOp a.eval ⟨dst, .binOp op t y z t2, ty, pos, after, guard⟩).run P w = .ok (.value v') w ∧ VR ρ v v' := by
        intro hx
        subst hx
        simp only [rdA] at hv
        obtain ⟨hr, hvr⟩ := binA_run (P := P) (w := w) (t := t) (ox := y) (oy := z) hy hz hv
        refine ⟨v, ?_, hvr⟩
        simp only [execOp, Sem.run_bind] at hr ⊢
        rw [hr]
        rfl
      split at hc
      · rename_i hu
        split at hc
        · rename_i ho; cases hc; exact hbool false hu (by simpa using ho) rfl
        · split at hc
          · rename_i ho; cases hc; exact hbool true hu (by simpa using ho) rfl
          · cases hc
      · cases hc; exact hbin rfl
      · cases hc; exact hbin rfl
      · rename_i e hu
        split at hc
        · split at hc
          · rename_i ho; cases hc; exact hsln false e hu (by simpa using ho) ⟨rfl, rfl⟩
          · split at hc
            · rename_i ho; cases hc; exact hsln true e hu (by simpa using ho) ⟨rfl, rfl⟩
            · cases hc
        · cases hc
      · rename_i e hu
        split at hc
        · split at hc
          · rename_i ho; cases hc; exact hptn false e hu (by simpa using ho) ⟨rfl, rfl⟩
          · split at hc
            · rename_i ho; cases hc; exact hptn true e hu (by simpa using ho) ⟨rfl, rfl⟩
            · cases hc
        · cases hc
      · split at hc
        · rename_i ho
          obtain ⟨k, hk, rfl⟩ := Option.map_eq_some_iff.1 hc
          exact haeq false k hk (by simpa using ho) rfl
        · split at hc
          · rename_i ho
            obtain ⟨k, hk, rfl⟩ := Option.map_eq_some_iff.1 hc
            exact haeq true k hk (by simpa using ho) rfl
          · cases hc
    · cases hc
  | unOp op t y =>
    simp only [copR] at hc
    split at hc
    · rename_i hok
      cases hc
      have hy := h.ev hok
      simp only [rdA] at hv
      simp only [execOp]
      generalize a.eval y = yv at *
      generalize s.ev y = ys at *
      unfold unA at hv
      split at hv
      · cases hv; obtain rfl := hy.int_inv
        exact ⟨_, by simp [go_sem, Op.unary, Op.intArith], .int _ _⟩
      · cases hv; obtain rfl := hy.bool_inv
        exact ⟨_, by simp [go_sem, Op.unary], .bool _⟩
      · cases hv; obtain rfl := hy.int_inv
        exact ⟨_, by simp [go_sem, Op.unary, Op.intBits], .int _ _⟩
      · cases hv
    · cases hc
  | convert src t y =>
    simp only [copR] at hc
    split at hc
    · rename_i hok
      have hy := h.ev hok
      split at hc
      · rename_i us k hus hu
        cases hc
        simp only [rdA] at hv
        simp only [execOp]
        generalize a.eval y = yv at *
        generalize s.ev y = ys at *
        split at hv
        · cases hv
          obtain rfl := hy.int_inv
          refine ⟨_, ?_, .int _ _⟩
          simp [convert, go_sem, run_und hus, run_und hu, Conv.intToInt]
        · cases hv
      · cases hc
    · cases hc
  | load t y =>
    simp only [copR] at hc
    split at hc
    · rename_i hok
      cases hs : shp P t with
      | none => rw [hs] at hc; cases hc
      | some k =>
        rw [hs] at hc
        cases hc
        simp only [rdA] at hv
        obtain ⟨v', hr, hvr⟩ := ldA_run h.mem hs (h.ev hok) hv
        exact ⟨v', run_v hr, hvr⟩
    · cases hc
  | field t y f =>
    simp only [copR] at hc
    split at hc
    · rename_i hok
      split at hc
      · rename_i fs hu
        cases hf : fs[f]? with
        | none => rw [hf] at hc; cases hc
        | some fd =>
          rw [hf] at hc
          simp only [Option.bind_some] at hc
          cases hs : shp P fd.type with
          | none => rw [hs] at hc; cases hc
          | some k =>
            rw [hs] at hc
            cases hc
            simp only [rdA] at hv
            have hy := h.ev hok
            have : ∃ cs, s.ev y = .agg cs := by
              unfold fldA at hv; split at hv
              · exact ⟨_, ‹_›⟩
              · cases hv
            obtain ⟨cs, hcs⟩ := this
            rw [hcs] at hv hy
            obtain ⟨ds, hds, hsz, hpt⟩ := hy.agg_inv
            obtain ⟨v', hr, hvr⟩ := part_run (P := P) (w := w) hs hsz hpt hv
            refine ⟨v', ?_, hvr⟩
            simp only [execOp, hds]
            exact run_v (by simp only [Instr.field, Sem.run_bind, run_und hu, Result.andThen_ok, hf, asAgg, Sem.run_pure, hr])
      · cases hc
    · cases hc
  | fieldAddr t y f =>
    simp only [copR] at hc
    split at hc
    · rename_i hok
      split at hc
      · rename_i fs hu
        cases hf : fs[f]? with
        | none => rw [hf] at hc; cases hc
        | some fd =>
          rw [hf] at hc
          simp only [Option.bind_some] at hc
          split at hc
          · cases hc
          · rename_i hsz
            cases hc
            simp only [rdA] at hv
            have hy := h.ev hok
            unfold fadA at hv
            split at hv
            · rename_i id off he
              cases hv
              rw [he] at hy
              cases hss : sizeP P fd.type with
              | none => rw [hss] at hsz; exact absurd rfl hsz
              | some k =>
                rw [hss] at hsz
                simp only [Option.getD_some] at hsz
                simp only [execOp]
                generalize a.eval y = yv at *
                cases hy with
                | ptr hp =>
                  refine ⟨_, ?_, .ptr hp⟩
                  simp [Instr.fieldAt, go_sem, run_und hu, hf, Instr.sureAddr, fieldPlace, run_siz hss, hsz, add_at, Nat.add_assoc]
            · cases hv
      · cases hc
    · cases hc
  | indexAddr t y i =>
    simp only [copR, Bool.and_eq_true] at hc
    split at hc
    · rename_i hok
      have hy := h.ev hok.1
      have hi := h.ev hok.2
      split at hc
      · rename_i e hu
        cases hs : sizeP P e with
        | none => rw [hs] at hc; cases hc
        | some sz =>
          rw [hs] at hc
          cases hc
          simp only [rdA] at hv
          simp only [execOp]
          generalize a.eval y = yv at *
          generalize a.eval i = iv at *
          generalize s.ev y = ys at *
          generalize s.ev i = is at *
          unfold iadA at hv
          split at hv
          · split at hv
            · rename_i hj
              cases hv
              obtain rfl := hi.int_inv
              obtain ⟨b, o, tot, c, A, rfl, hp, hk, hc2, h0, h1⟩ := hy.slice_inv
              have hA : A = _ := VR.slice_addr (by have := hj; omega) hk h0 h1
              subst hA
              refine ⟨_, run_v (v := .pointer (some ⟨b, o + (_ + _ * sz), none⟩)) ?_, .ptr hp⟩
              simp [Instr.indexAt, go_sem, asIntOf, run_und hu, hj, run_siz hs, add_at, Nat.add_assoc]
            · cases hv
          · cases hv
      · rename_i l e hu
        cases hs : sizeP P e with
        | none => rw [hs] at hc; cases hc
        | some sz =>
          rw [hs] at hc
          cases hc
          simp only [rdA] at hv
          simp only [execOp]
          generalize a.eval y = yv at *
          generalize a.eval i = iv at *
          generalize s.ev y = ys at *
          generalize s.ev i = is at *
          unfold iadaA at hv
          split at hv
          · split at hv
            · rename_i hj
              cases hv
              obtain rfl := hi.int_inv
              cases hy with
              | ptr hp =>
                refine ⟨_, run_v (v := .pointer (some ⟨_, _ + (_ + _ * sz), none⟩)) ?_, .ptr hp⟩
                simp [Instr.indexAt, go_sem, asIntOf, run_und hu, hj, run_siz hs, add_at, Nat.add_assoc, Instr.sureAddr]
            · cases hv
          · cases hv
      · cases hc
    · cases hc
  | index t y i =>
    simp only [copR, Bool.and_eq_true] at hc
    split at hc
    · rename_i hok
      have hy := h.ev hok.1
      have hi := h.ev hok.2
      split at hc
      · rename_i hu
        cases hc
        simp only [rdA] at hv
        simp only [execOp]
        generalize a.eval y = yv at *
        generalize a.eval i = iv at *
        generalize s.ev y = ys at *
        generalize s.ev i = is at *
        unfold idxsA at hv
        split at hv
        · split at hv
          · rename_i hj
            split at hv
            · rename_i bb hb
              cases hv
              obtain rfl := hi.int_inv
              cases hy
              refine ⟨_, run_v ?_, .int _ _⟩
              simp [Instr.index, go_sem, asIntOf, run_und hu, hj, hb]
            · cases hv
          · cases hv
        · cases hv
      · rename_i l e hu
        cases hs : sizeP P e with
        | none => rw [hs] at hc; cases hc
        | some sz =>
          rw [hs] at hc
          simp only [Option.bind_some] at hc
          cases hsh : shp P e with
          | none => rw [hsh] at hc; cases hc
          | some k =>
            rw [hsh] at hc
            cases hc
            simp only [rdA] at hv
            simp only [execOp]
            generalize a.eval y = yv at *
            generalize a.eval i = iv at *
            generalize s.ev y = ys at *
            generalize s.ev i = is at *
            unfold idxaA at hv
            split at hv
            · rename_i cs kk j
              split at hv
              · rename_i hj
                obtain rfl := hi.int_inv
                obtain ⟨ds, rfl, hsz, hpt⟩ := hy.agg_inv
                have hv2 : fldA (j.toNat * sz) k (.agg cs) = some v := by
                  unfold fldA; exact hv
                obtain ⟨v', hr, hvr⟩ := part_run (P := P) (w := w) hsh hsz hpt hv2
                refine ⟨v', run_v ?_, hvr⟩
                simp only [Instr.index, Sem.run_bind, asIntOf, Sem.run_pure, Result.andThen_ok, run_und hu, hj, if_true, run_siz hs, hr, and_self]
              · cases hv
            · cases hv
      · cases hc
    · cases hc
  | slice t y lo hi mx =>
    cases mx with
    | some z => simp only [copR] at hc; cases hc
    | none =>
      simp only [copR, Bool.and_eq_true] at hc
      split at hc
      · rename_i hok
        have hy := h.ev hok.1.1
        split at hc
        · rename_i e hu
          cases hs : sizeP P e with
          | none => rw [hs] at hc; cases hc
          | some sz =>
            rw [hs] at hc
            cases hc
            simp only [rdA] at hv
            unfold slcA at hv
            split at hv
            · rename_i id off k fl he
              rw [he] at hy
              obtain ⟨b, o, tot, c, A, hA, hp, hk, hc2, h0, h1⟩ := hy.slice_inv
              split at hv
              · rename_i l j hl hj
                split at hv
                · rename_i hlj
                  cases hv
                  have hb := bounds_run (P := P) (isS := true) (c := c) h hok.1.2 hok.2 hl hj hlj.1 hlj.2 hk
                  refine ⟨.slice (if c = l then A else A.map (·.add (l * sz))) (j - l) (c - l), run_v ?_, ?_⟩
                  · simp only [Option.map_none, Instr.sliceAt, Sem.run_bind, run_und hu, Result.andThen_ok, Instr.slice, hA, hb, run_siz hs, Sem.run_pure]
                  · refine .sl hp (by omega) (by omega) ?_ ?_
                    · intro hf hpos
                      have hne : ¬ (c = l) := by omega
                      rw [if_neg hne]
                      have : A = _ := VR.slice_addr (by omega) hk h0 h1
                      rw [this]
                      simp [add_at, Nat.add_assoc]
                    · intro hf
                      cases lo with
                      | none =>
                        simp only [Option.map_none, Option.isNone_none, if_true] at hf ⊢
                        simp [boundA] at hl
                        subst hl
                        obtain ⟨e1, e2⟩ := h1 hf
                        refine ⟨by simpa using e1, fun ht => ?_⟩
                        have := e2 ht
                        rw [this]
                        by_cases hc0 : c = 0
                        · simp [hc0]
                        · rw [if_neg hc0]; simp [add_at]
                      | some z => simp at hf
                · cases hv
              · cases hv
            · rename_i he
              rw [he] at hy
              have hA : a.eval y = .slice none 0 0 := by
                generalize a.eval y = yv at hy
                cases hy; rfl
              split at hv
              · rename_i l j hl hj
                split at hv
                · rename_i hlj
                  cases hv
                  have hb := bounds_run (P := P) (isS := true) (c := 0) h hok.1.2 hok.2 hl hj hlj.1 hlj.2 (Nat.le_refl _)
                  refine ⟨.slice none 0 0, run_v ?_, .nils⟩
                  obtain rfl : j = 0 := by omega
                  obtain rfl : l = 0 := by omega
                  simp only [Option.map_none, Instr.sliceAt, Sem.run_bind, run_und hu, Result.andThen_ok, Instr.slice, hA, hb, run_siz hs, Sem.run_pure, if_true]
                · cases hv
              · cases hv
            · cases hv
        · rename_i hu
          cases hc
          simp only [rdA] at hv
          unfold slcsA at hv
          split at hv
          · rename_i str he
            rw [he] at hy
            have hA : a.eval y = .string str := by
              generalize a.eval y = yv at hy
              cases hy; rfl
            split at hv
            · rename_i l j hl hj
              split at hv
              · rename_i hlj
                cases hv
                have hb := bounds_run (P := P) (isS := false) (c := str.size) h hok.1.2 hok.2 hl hj hlj.1 hlj.2 (Nat.le_refl _)
                refine ⟨_, run_v ?_, .str _⟩
                simp [Option.map_none, Instr.sliceAt, Sem.run_bind, run_und hu, Result.andThen_ok, Instr.slice, hA, hb]
              · cases hv
            · cases hv
          · cases hv
        · rename_i len e hu
          split at hc
          · rename_i hlen
            cases hs : sizeP P e with
            | none => rw [hs] at hc; cases hc
            | some sz =>
              rw [hs] at hc
              cases hc
              simp only [rdA] at hv
              unfold slcpA at hv
              split at hv
              · rename_i id off he
                rw [he] at hy
                have hA : ∃ b o tot, ρ[id]? = some (b, o, tot) ∧ a.eval y = .pointer (some ⟨b, o + off, none⟩) := by
                  generalize a.eval y = yv at hy
                  cases hy with
                  | ptr hp => exact ⟨_, _, _, hp, rfl⟩
                obtain ⟨b, o, tot, hp, hA⟩ := hA
                split at hv
                · rename_i l j hl hj
                  split at hv
                  · rename_i hlj
                    cases hv
                    have hb := bounds_run (P := P) (isS := false) (c := len) h hok.1.2 hok.2 hl hj hlj.1 hlj.2 (Nat.le_refl _)
                    refine ⟨.slice (some (if len = l then ⟨b, o + off, none⟩ else (⟨b, o + off, none⟩ : Addr).add (l * sz))) (j - l) (len - l), run_v ?_, ?_⟩
                    · simp only [Option.map_none, Instr.sliceAt, Sem.run_bind, run_und hu, Result.andThen_ok, Instr.sureAddr, hA, hb, run_siz hs, Sem.run_pure]
                    · refine .sl hp (by omega) (by omega) ?_ ?_
                      · intro hf hpos
                        have hne : ¬ (len = l) := by omega
                        rw [if_neg hne]
                        simp [add_at, Nat.add_assoc]
                      · intro hf
                        exact absurd hf (by omega)
                  · cases hv
                · cases hv
              · cases hv
          · cases hc
        · cases hc
      · cases hc
  | extract y i =>
    simp only [copR] at hc
    split at hc
    · rename_i hok
      cases hc
      have hy := h.ev hok
      simp only [rdA] at hv
      simp only [execOp]
      generalize a.eval y = yv at *
      generalize s.ev y = ys at *
      unfold extA at hv
      split at hv
      · cases hy with
        | tup hs hpt =>
          obtain ⟨v', hv', hvr⟩ := arr_at hs hpt hv
          refine ⟨v', run_v ?_, hvr⟩
          simp [Instr.extract, hv', go_sem]
      · cases hv
    · cases hc
  | makeFunc f first cap =>
    cases f with
    | func f =>
      simp only [copR, Bool.and_eq_true] at hc
      split at hc
      · rename_i hok
        cases hc
        simp only [rdA] at hv
        cases hv
        have e1 := evs_rel h (xs := first.toList) (by simpa using hok.1)
        have e2 := evs_rel h (xs := cap.toList) (by simpa using hok.2)
        refine ⟨.func (.func f) (first.map a.eval) (cap.map a.eval), run_v rfl, ?_⟩
        have q1 := e1.arr
        have q2 := e2.arr
        have t1 : (List.map a.eval first.toList).toArray = first.map a.eval := by rw [← Array.toList_map]
        have t2 : (List.map a.eval cap.toList).toArray = cap.map a.eval := by rw [← Array.toList_map]
        rw [t1] at q1
        rw [t2] at q2
        exact .fn q1.1 q2.1 q1.2 q2.2
      · cases hc
    | _ => simp only [copR] at hc; cases hc
  | nilCheck y =>
    simp only [copR] at hc
    split at hc
    · rename_i hok
      cases hc
      have hy := h.ev hok
      simp only [rdA] at hv
      simp only [execOp]
      generalize a.eval y = yv at *
      generalize s.ev y = ys at *
      unfold nilcA at hv
      split at hv
      · cases hv
        cases hy with
        | ptr hp => exact ⟨_, rfl, .ptr hp⟩
      · cases hv
        cases hy with
        | fn h1 h2 h3 h4 => exact ⟨_, rfl, .fn h1 h2 h3 h4⟩
      · cases hv
        cases hy with
        | ifc h1 => exact ⟨_, rfl, .ifc h1⟩
      · cases hv
    · cases hc
  | makeInterface t y =>
    simp only [copR] at hc
    split at hc
    · rename_i hok
      split at hc
      · cases hc
      · rename_i d hu hni
        cases hc
        simp only [rdA] at hv
        cases hv
        refine ⟨_, run_v ?_, .ifc (h.ev hok)⟩
        simp only [Instr.makeInterface, Sem.run_bind, run_und hni, Result.andThen_ok]
        try (cases d <;> first | rfl | exact absurd rfl (hu _))
      · cases hc
    · cases hc
  | call c =>
    obtain ⟨callee, args, argTypes⟩ := c
    simp only [copR] at hc
    unfold copLen at hc
    split at hc
    · rename_i y t h1 h2
      split at hc
      · rename_i hok
        have hy := h.ev hok
        have e1 : args = #[y] := by rw [← Array.toArray_toList (xs := args), h1]
        have e2 : argTypes = #[t] := by rw [← Array.toArray_toList (xs := argTypes), h2]
        subst e1
        subst e2
        split at hc
        · rename_i hu
          cases hc
          simp only [rdA] at hv
          have hr : ∀ r, (Builtin.len_ #[t] ty #[a.eval y]).run P w = .ok r w → (execOp a.eval ⟨dst, .call ⟨.builtin .len, #[y], #[t]⟩, ty, pos, after, guard⟩).run P w = .ok (.value r) w := fun r hr => by
            simp only [execOp, resolve, invoke, builtin, Sem.run_bind, Sem.run_pure, Result.andThen_ok, List.map_toArray, List.map_cons, List.map_nil, hr]
          generalize a.eval y = yv at *
          generalize s.ev y = ys at *
          unfold lensA at hv
          split at hv
          · cases hv; cases hy
            exact ⟨_, hr _ (by simp [Builtin.len_, go_sem, run_und hu, goInt]), .int _ _⟩
          · cases hv
        · rename_i e hu
          cases hc
          simp only [rdA] at hv
          have hr : ∀ r, (Builtin.len_ #[t] ty #[a.eval y]).run P w = .ok r w → (execOp a.eval ⟨dst, .call ⟨.builtin .len, #[y], #[t]⟩, ty, pos, after, guard⟩).run P w = .ok (.value r) w := fun r hr => by
            simp only [execOp, resolve, invoke, builtin, Sem.run_bind, Sem.run_pure, Result.andThen_ok, List.map_toArray, List.map_cons, List.map_nil, hr]
          generalize a.eval y = yv at *
          generalize s.ev y = ys at *
          unfold lenA at hv
          split at hv
          · cases hv
            cases hy with
            | nils => exact ⟨_, hr _ (by simp [Builtin.len_, go_sem, run_und hu, goInt]), .int _ _⟩
            | sl _ _ _ _ _ => exact ⟨_, hr _ (by simp [Builtin.len_, go_sem, run_und hu, goInt]), .int _ _⟩
          · cases hv
        · cases hc
      · cases hc
    · rename_i y t h1 h2
      split at hc
      · rename_i hok
        have hy := h.ev hok
        have e1 : args = #[y] := by rw [← Array.toArray_toList (xs := args), h1]
        have e2 : argTypes = #[t] := by rw [← Array.toArray_toList (xs := argTypes), h2]
        subst e1
        subst e2
        split at hc
        · rename_i e hu
          cases hc
          simp only [rdA] at hv
          have hr : ∀ r, (Builtin.cap_ #[t] ty #[a.eval y]).run P w = .ok r w → (execOp a.eval ⟨dst, .call ⟨.builtin .cap, #[y], #[t]⟩, ty, pos, after, guard⟩).run P w = .ok (.value r) w := fun r hr => by
            simp only [execOp, resolve, invoke, builtin, Sem.run_bind, Sem.run_pure, Result.andThen_ok, List.map_toArray, List.map_cons, List.map_nil, hr]
          generalize a.eval y = yv at *
          generalize s.ev y = ys at *
          unfold cpzA at hv
          split at hv
          · cases hv; cases hy
            exact ⟨_, hr _ (by simp [Builtin.cap_, go_sem, run_und hu, goInt]), .int _ _⟩
          · cases hv
        · cases hc
      · cases hc
    · rename_i y z h1
      split at hc
      · rename_i hok
        simp only [Bool.and_eq_true] at hok
        have hy := h.ev hok.1
        have hz := h.ev hok.2
        have e1 : args = #[y, z] := by rw [← Array.toArray_toList (xs := args), h1]
        subst e1
        cases hc
        simp only [rdA] at hv
        have hr : ∀ r, (Builtin.min_ argTypes ty #[a.eval y, a.eval z]).run P w = .ok r w → (execOp a.eval ⟨dst, .call ⟨.builtin .min, #[y, z], argTypes⟩, ty, pos, after, guard⟩).run P w = .ok (.value r) w := fun r hr => by
          simp only [execOp, resolve, invoke, builtin, Sem.run_bind, Sem.run_pure, Result.andThen_ok, List.map_toArray, List.map_cons, List.map_nil, hr]
        generalize a.eval y = yv at *
        generalize a.eval z = zv at *
        generalize s.ev y = ys at *
        generalize s.ev z = zs at *
        unfold mmA at hv
        split at hv
        · cases hv; cases hy; cases hz
          exact ⟨_, hr _ (by simp [Builtin.min_, Builtin.min2, go_sem]), .int _ _⟩
        · cases hv
      · cases hc
    · rename_i y z h1
      split at hc
      · rename_i hok
        simp only [Bool.and_eq_true] at hok
        have hy := h.ev hok.1
        have hz := h.ev hok.2
        have e1 : args = #[y, z] := by rw [← Array.toArray_toList (xs := args), h1]
        subst e1
        cases hc
        simp only [rdA] at hv
        have hr : ∀ r, (Builtin.max_ argTypes ty #[a.eval y, a.eval z]).run P w = .ok r w → (execOp a.eval ⟨dst, .call ⟨.builtin .max, #[y, z], argTypes⟩, ty, pos, after, guard⟩).run P w = .ok (.value r) w := fun r hr => by
          simp only [execOp, resolve, invoke, builtin, Sem.run_bind, Sem.run_pure, Result.andThen_ok, List.map_toArray, List.map_cons, List.map_nil, hr]
        generalize a.eval y = yv at *
        generalize a.eval z = zv at *
        generalize s.ev y = ys at *
        generalize s.ev z = zs at *
        unfold mmA at hv
        split at hv
        · cases hv; cases hy; cases hz
          exact ⟨_, hr _ (by simp [Builtin.max_, Builtin.max2, go_sem]), .int _ _⟩
        · cases hv
      · cases hc
    · cases hc
  | build t parts =>
    simp only [copR] at hc
    split at hc
    · rename_i hok
      split at hc
      · rename_i fs z hu hz
        split at hc
        · rename_i hzs
          simp only [Bool.and_eq_true] at hzs
          cases hps : partsAt (fun i => (fs[i]?).map fun f => (f.offset, (sizeP P f.type).getD 0)) parts.toList with
          | none => rw [hps] at hc; cases hc
          | some ps =>
            rw [hps] at hc
            cases hc
            simp only [rdA] at hv
            split at hv
            · rename_i xs hx
              cases hv
              obtain ⟨ys, hf, hvl⟩ := fill_parts h (by simpa using hok) hps (VL.consts (by simpa using hzs.1)) hx
              refine ⟨.agg ys, run_v ?_, ?_⟩
              · obtain ⟨inf, hinf, hzero⟩ := Option.bind_eq_some_iff.1 hz
                have hmp := mapM_places (w := w) (fs := fs.toList) (by simpa using hzs.2)
                simp only [Instr.build, zeroValue, Sem.run_bind, run_inf hinf, hzero, Sem.run_pure, Result.andThen_ok, run_und hu, Array.mapM_eq_mapM_toList, Sem.run_map, hmp]
                have hpl : (fun (i : Nat) => (((fs.toList.map fun (f : Field) => (f.offset, (sizeP P f.type).getD 0)).toArray)[i]? : Option (Nat × Nat))) = fun (i : Nat) => (fs[i]?).map fun (f : Field) => (f.offset, (sizeP P f.type).getD 0) := by
                  funext i; simp
                rw [hpl]
                have e : (Array.map (fun (x : Nat × Operand) => (x.1, a.eval x.2)) parts).toList = parts.toList.map fun p => (p.1, a.eval p.2) := by simp
                rw [e]
                rw [Array.toArray_toList] at hf
                rw [hf]
                rfl
              · exact .agg (by have := hvl.1; simpa using this) (by have := hvl.arr; simpa using this.2)
            · cases hv
        · cases hc
      · rename_i l e z hu hz
        split at hc
        · rename_i hzs
          cases hs : sizeP P e with
          | none => rw [hs] at hc; cases hc
          | some sz =>
          rw [hs] at hc
          simp only [Option.bind_some] at hc
          cases hps : partsAt (fun i => some (i * sz, sz)) parts.toList with
          | none => rw [hps] at hc; cases hc
          | some ps =>
            rw [hps] at hc
            cases hc
            simp only [rdA] at hv
            split at hv
            · rename_i xs hx
              cases hv
              obtain ⟨ys, hf, hvl⟩ := fill_parts h (by simpa using hok) hps (VL.consts (by simpa using hzs)) hx
              refine ⟨.agg ys, run_v ?_, ?_⟩
              · obtain ⟨inf, hinf, hzero⟩ := Option.bind_eq_some_iff.1 hz
                simp only [Instr.build, zeroValue, Sem.run_bind, run_inf hinf, hzero, Sem.run_pure, Result.andThen_ok, run_und hu, run_siz hs]
                have e : (Array.map (fun (x : Nat × Operand) => (x.1, a.eval x.2)) parts).toList = parts.toList.map fun p => (p.1, a.eval p.2) := by simp
                rw [e]
                rw [Array.toArray_toList] at hf
                rw [hf]
                rfl
              · exact .agg (by have := hvl.1; simpa using this) (by have := hvl.arr; simpa using this.2)
            · cases hv
        · cases hc
      · cases hc
    · cases hc
  | _ => simp only [copR] at hc; cases hc
/-- A function that can be called, its answer and the memory behind it. -/
def AC (P : Program) (f : FuncId) (args : List Value) (m : Mem) (Q : Value → Mem → Prop) : Prop :=
  (∃ fn, P.funcs[f]? = some fn ∧ (fn.name == "runtime.NumGoroutine") = false ∧ fn.body.isNone = false) ∧
  ∀ (W0 : World) (base : Nat) (ρ : Places) (w : World) (cargs : List Value), MRel W0 base ρ m w → VL ρ args cargs →
    Calls P f cargs.toArray w (fun e w' => ∃ v v' m' ρ', e = .returned v' ∧ Q v m' ∧ ρ <+: ρ' ∧ MRel W0 base ρ' m' w' ∧ VR ρ' v v')
/-- The same for a function that writes into nothing that was there: new blocks alone. -/
def RC (P : Program) (f : FuncId) (args : List Value) (m : Mem) (Q : Value → Mem → Prop) : Prop :=
  (∃ fn, P.funcs[f]? = some fn ∧ (fn.name == "runtime.NumGoroutine") = false ∧ fn.body.isNone = false) ∧
  ∀ (ρ : Places) (w : World) (cargs : List Value), MRel w w.heap.size ρ (roM m) w → VL ρ args cargs →
    Calls P f cargs.toArray w (fun e w' => ∃ v v' new ρn, e = .returned v' ∧ Q v new ∧ NoRo new ∧ MRel w w.heap.size (ρ ++ ρn) (roM m ++ new) w' ∧ VR (ρ ++ ρn) v v')
theorem AC.mono {f : FuncId} {args : List Value} {Q Q' : Value → Mem → Prop} (h : AC P f args m Q) (hq : ∀ v m', Q v m' → Q' v m') : AC P f args m Q' :=
  ⟨h.1, fun W0 base ρ w cargs hm hv => (h.2 W0 base ρ w cargs hm hv).mono fun e w' ⟨v, v', m', ρ', a, b, c⟩ => ⟨v, v', m', ρ', a, hq _ _ b, c⟩⟩
theorem RC.mono {f : FuncId} {args : List Value} {Q Q' : Value → Mem → Prop} (h : RC P f args m Q) (hq : ∀ v m', Q v m' → Q' v m') : RC P f args m Q' :=
  ⟨h.1, fun ρ w cargs hm hv => (h.2 ρ w cargs hm hv).mono fun e w' ⟨v, v', m', ρ', a, b, c⟩ => ⟨v, v', m', ρ', a, hq _ _ b, c⟩⟩
theorem RC.ac {f : FuncId} {args : List Value} {Q : Value → Mem → Prop} (h : RC P f args m fun v new => Q v (m ++ new)) : AC P f args m Q :=
  ⟨h.1, fun W0 base ρ w cargs hm hv => (h.2 ρ w cargs hm.toRo hv).mono fun e w' ⟨v, v', new, ρn, he, hq, hn, hm2, hvr⟩ =>
    ⟨v, v', m ++ new, ρ ++ ρn, he, hq, List.prefix_append _ _, hm.back hm2 hn, hvr⟩⟩

def onesB (xs : List Value) : Bool := xs.all (·.oneCell')
/-- n cells from a place on -/
def rdl (m : Mem) (id off k : Nat) : Option (List Value) := match m[id]? with
  | some b => if b.kd = .dead then none else if off + k ≤ b.cs.length then some ((b.cs.drop off).take k) else none
  | none => none
def slR (m : Mem) (sz : Nat) : Value → Option (List Value)
  | .slice none 0 0 => some []
  | .slice (some ⟨id, off, none⟩) k _ => rdl m id off (k * sz)
  | _ => none
def stA (m : Mem) (id off : Nat) (vs : List Value) : Option Mem := match m[id]? with
  | some b => if b.kd = .own ∧ off + vs.length ≤ b.cs.length ∧ onesB vs = true then some (m.set id ⟨.own, b.el, putL b.cs off vs⟩) else none
  | none => none
/-- append: the new slice and the memory behind it -/
def appA (m : Mem) (e sz byt : Nat) (x : Value) (xs : List Value) (k : Nat) : Option (Value × Mem) := match x with
  | .slice none 0 0 => if k ≤ 9223372036854775807 ∧ k * byt ≤ 140737488355328 then some (.slice (some ⟨m.length, 0, none⟩) k sz, m ++ [⟨.own, e, xs⟩]) else none
  | .slice (some ⟨id, 0, none⟩) j fl => match m[id]? with
    | some b => if b.kd = .own ∧ fl = sz ∧ b.el = e ∧ b.cs.length = j * sz ∧ j + k ≤ 9223372036854775807 ∧ (j + k) * byt ≤ 140737488355328 then
        some (.slice (some ⟨m.length, 0, none⟩) (j + k) sz, m.set id deadB ++ [⟨.own, e, b.cs ++ xs⟩])
      else if b.kd = .own ∧ fl = sz ∧ b.el = e ∧ j * sz ≤ b.cs.length ∧ j + k ≤ 9223372036854775807 ∧ (j + k) * byt ≤ 140737488355328 then
        some (.slice (some ⟨m.length, 0, none⟩) (j + k) sz, m.set id deadB ++ [⟨.own, e, b.cs.take (j * sz) ++ xs⟩]) else none
    | none => none
  | _ => none
def lenOfA : Value → Nat
  | .slice _ k _ => k
  | _ => 0
/-- copy: how many elements, and the memory behind it -/
def cpyA (m : Mem) (sz : Nat) (y x : Value) : Option (Value × Mem) := match y, slR m sz x with
  | .slice (some ⟨id, off, none⟩) j _, some xs => if onesB xs = true then (match stA m id off (xs.take (min (lenOfA x) j * sz)) with
    | some m' => some (.int .i64 (min (lenOfA x) j : Nat), m')
    | none => none) else none
  | _, _ => none
/-- A map's value at a key: the first entry's with it. -/
def lkE : List Value → Int → Option Value
  | [], _ => none
  | .tuple a :: es, x => match a.toList with
    | [.int .i64 k, v] => if k = x then some v else lkE es x
    | _ => lkE es x
  | _ :: es, x => lkE es x
def mapB (m : Mem) (id : Nat) : Option (TypeId × List Value) := match m[id]? with
  | some ⟨.dead, e, .bool true :: es⟩ => some (e, es)
  | _ => none
def mapOf (m : Mem) : Value → Option (TypeId × List Value)
  | .map (some id) => mapB m id
  | _ => none
def lkA (m : Mem) (ok : Bool) (z mv kv : Value) : Option Value := match mapOf m mv, kv with
  | some p, .int .i64 x => some (if ok then .tuple #[(lkE p.2 x).getD z, .bool (lkE p.2 x).isSome] else (lkE p.2 x).getD z)
  | _, _ => none
/-- An entry under a key that has none. -/
def mupA (m : Mem) (mv kv v : Value) : Option Mem := match mv, mapOf m mv, kv with
  | .map (some id), some p, .int .i64 x => if (lkE p.2 x).isNone then some (m.set id ⟨.dead, p.1, .bool true :: (p.2 ++ [.tuple #[.int .i64 x, v]])⟩) else none
  | _, _, _ => none
/-- A row of so many elements, all the same. -/
def repL (n : Nat) (z : List Value) : List Value := (List.replicate n z).flatten
theorem repL_len (n : Nat) (z : List Value) : (repL n z).length = n * z.length := by simp [repL]
theorem repL_succ (n : Nat) (z : List Value) : repL (n + 1) z = z ++ repL n z := by simp [repL, List.replicate_succ]
theorem repL_at (z : List Value) : ∀ (n k : Nat), k < n * z.length → (repL n z)[k]? = z[k % z.length]? := by
  intro n
  induction n with
  | zero => intro k h; simp at h
  | succ n ih =>
    intro k h
    rw [repL_succ]
    by_cases hk : k < z.length
    · rw [List.getElem?_append_left hk, Nat.mod_eq_of_lt hk]
    · rw [List.getElem?_append_right (by omega), ih (k - z.length) (by rw [Nat.succ_mul] at h; omega), ← Nat.mod_eq_sub_mod (by omega)]
theorem repL_one (n : Nat) (z : Value) : repL n [z] = List.replicate n z := by
  induction n with
  | zero => rfl
  | succ n ih => rw [repL_succ, ih, List.replicate_succ]; rfl
/-- clear: the memory behind it -/
def clrA (m : Mem) (z : List Value) : Value → Option Mem
  | .slice none 0 0 => some m
  | .slice (some ⟨id, off, none⟩) k _ => if k = 0 then some m else stA m id off (repL k z)
  | _ => none
/-- append of a made row to nil: the new slice and the memory behind it -/
def apzA (m : Mem) (e byt : Nat) (z : List Value) (y x : Value) : Option (Value × Mem) := match y, x with
  | .slice none 0 0, .int .i64 j => if 0 < j ∧ j ≤ 140737488355328 ∧ j * byt ≤ 140737488355328 then some (.slice (some ⟨m.length, 0, none⟩) j.toNat z.length, m ++ [⟨.own, e, repL j.toNat z⟩]) else none
  | _, _ => none
/-- One operation. -/
def step (P : Program) (s : St) (x : AOp) (K : Value → Mem → Prop) : Prop := match x with
  | .box e x => K (.pointer (some ⟨s.m.length, 0, none⟩)) (s.m ++ [⟨.own, e, (s.ev x).cells.toList⟩])
  | .alc e zero => K (.pointer (some ⟨s.m.length, 0, none⟩)) (s.m ++ [⟨.own, e, zero⟩])
  | .bsl e sz len zero parts => match fillA zero (parts.map fun p => (p.1, p.2.1, s.ev p.2.2)) with
    | some cs => K (.slice (some ⟨s.m.length, 0, none⟩) len sz) (s.m ++ [⟨.own, e, cs⟩])
    | none => False
  | .mks e byt z l c => match s.ev l, s.ev c with
    | .int _ a, .int _ b => (0 ≤ a ∧ a ≤ b ∧ b * byt ≤ 140737488355328 ∧ b ≤ 140737488355328) ∧ K (.slice (some ⟨s.m.length, 0, none⟩) a.toNat z.length) (s.m ++ [⟨.own, e, repL a.toNat z⟩])
    | _, _ => False
  | .st k p x => match s.ev p with
    | .pointer (some ⟨id, off, none⟩) => if (s.ev x).cells.size = k then (match stA s.m id off (s.ev x).cells.toList with
      | some m' => K undef m'
      | none => False) else False
    | _ => False
  | .app e sz byt y x => match slR s.m sz (s.ev x) with
    | some xs => onesB xs = true ∧ (match appA s.m e sz byt (s.ev y) xs (lenOfA (s.ev x)) with
      | some r => K r.1 r.2
      | none => False)
    | none => False
  | .cpy sz y x => match cpyA s.m sz (s.ev y) (s.ev x) with
    | some r => K r.1 r.2
    | none => False
  | .apz e byt z y x => match apzA s.m e byt z (s.ev y) (s.ev x) with
    | some r => K r.1 r.2
    | none => False
  | .mkm e => K (.map (some s.m.length)) (s.m ++ [⟨.dead, e, [.bool true]⟩])
  | .mup m k x => match mupA s.m (s.ev m) (s.ev k) (s.ev x) with
    | some m' => K undef m'
    | none => False
  | .lkp ok z m k => match lkA s.m ok z (s.ev m) (s.ev k) with
    | some v => K v s.m
    | none => False
  | .call f args => match s.ev f with
    | .func (.func g) first cap => AC P g (first.toList ++ args.map s.ev ++ cap.toList) s.m K
    | _ => False
  | .rcall f args => match s.ev f with
    | .func (.func g) first cap => RC P g (first.toList ++ args.map s.ev ++ cap.toList) s.m fun v new => K v (s.m ++ new)
    | _ => False
  | .clr z x => match clrA s.m z (s.ev x) with
    | some m' => K undef m'
    | none => False
  | .inv x name args => match invA P name (s.ev x) with
    | some r => RC P r.1 (r.2 :: args.map s.ev) s.m fun v new => K v (s.m ++ new)
    | none => False
  | x => match rdA s x with
    | some v => K v s.m
    | none => False
def copApz (P : Program) (y x : Operand) (t u : TypeId) : Option AOp := match P.underlying t, P.underlying u with
  | some (.slice e), some (.int .i64) => match P.info? e with
    | some i => match i.zero with
      | some z => if 0 < i.size && z.cells.size == i.size && z.cells.all constOk then some (.apz e i.bytes z.cells.toList y x) else none
      | none => none
    | none => none
  | _, _ => none
def copCall (P : Program) (n : Nat) : Callee → List Operand → List TypeId → Option AOp
  | .value f, xs, _ => if opdOk n f && xs.all (opdOk n) then some (.call f xs) else none
  | .invoke x name, xs, _ => if opdOk n x && xs.all (opdOk n) then some (.inv x name xs) else none
  | .builtin .clear, [x], [t] => if opdOk n x then (match P.underlying t with
    | some (.slice e) => match (P.info? e).bind (·.zero) with
      | some z => if 0 < z.cells.size && z.cells.all constOk then some (.clr z.cells.toList x) else none
      | none => none
    | _ => none) else none
  | .builtin .append, [y, x], [t, u] => if opdOk n y && opdOk n x && t == u then (match P.underlying t with
    | some (.slice e) => match P.info? e with
      | some i => match i.zero with
        | some z => if 0 < i.size && z.cells.size == i.size then some (.app e i.size i.bytes y x) else none
        | none => none
      | none => none
    | _ => none) else if opdOk n y && opdOk n x then copApz P y x t u else none
  | .builtin .copy, [y, x], [t, u] => if opdOk n y && opdOk n x && t == u then (match P.underlying t with
    | some (.slice e) => match sizeP P e with
      | some sz => if 0 < sz then some (.cpy sz y x) else none
      | none => none
    | _ => none) else none
  | _, _, _ => none
def intKey (P : Program) (t : TypeId) : Bool := match P.underlying t with
  | some (.int .i64) => true
  | _ => false
/-- The compiled form of an operation that makes or writes memory, or calls. -/
def copE (P : Program) (n : Nat) (o : Oper) : Option AOp := match o.op with
  | .box e x => if opdOk n x then some (.box e x) else none
  | .alloc e => match (P.info? e).bind (·.zero) with
    | some z => if z.cells.all constOk then some (.alc e z.cells.toList) else none
    | none => none
  | .buildSlice t len parts => if parts.all (fun p => opdOk n p.2) then (match P.underlying t with
    | some (.slice e) => match P.info? e with
      | some i => match i.zero with
        | some z => if 0 < i.size && len * i.size ≤ 16777216 && ((Array.range (len * i.size)).map (z.cells[· % z.cells.size]!)).all constOk then
            (partsAt (fun j => some (j * i.size, i.size)) parts.toList).map fun ps => .bsl e i.size len ((Array.range (len * i.size)).map (z.cells[· % z.cells.size]!)).toList ps else none
        | none => none
      | none => none
    | _ => none) else none
  | .makeSlice t l c => if opdOk n l && opdOk n c then (match P.underlying t with
    | some (.slice e) => match P.info? e with
      | some i => match i.zero with
        | some z => if 0 < i.size && z.cells.size == i.size && z.cells.all constOk then some (.mks e i.bytes z.cells.toList l c) else none
        | none => none
      | none => none
    | _ => none) else none
  | .store t p x => if opdOk n p && opdOk n x then (sizeP P t).map fun k => .st k p x else none
  | .makeMap t none => some (.mkm t)
  | .insert t m k x | .mapUpdate t m k x => if opdOk n m && opdOk n k && opdOk n x then (match P.underlying t with
    | some (.map kt _) => if intKey P kt then some (.mup m k x) else none
    | _ => none) else none
  | .lookup t m k ok => if opdOk n m && opdOk n k then (match P.underlying t with
    | some (.map kt e) => match (P.info? e).bind (·.zero) with
      | some z => if intKey P kt && z.cells.all constOk then some (.lkp ok z m k) else none
      | none => none
    | _ => none) else none
  | .call c => copCall P n c.callee c.args.toList c.argTypes.toList
  | _ => none
def isR : AOp → Bool
  | .box .. | .alc .. | .bsl .. | .mks .. | .st .. | .app .. | .cpy .. | .apz .. | .mkm .. | .mup .. | .lkp .. | .call .. | .rcall .. | .inv .. | .clr .. => false
  | _ => true
def cop0 (P : Program) (n : Nat) (o : Oper) : Option AOp := match copR P n o with
  | some x => if isR x then some x else none
  | none => copE P n o
/-- What has no compiled form must never come to be run. -/
def cop (P : Program) (n : Nat) (o : Oper) : Option AOp := some ((cop0 P n o).getD .never)
theorem step_rd {x : AOp} {K : Value → Mem → Prop} (hx : isR x = true) (h : step P s x K) : ∃ v, rdA s x = some v ∧ K v s.m := by
  cases x <;> first | (simp [isR] at hx; done) | skip
  all_goals
    simp only [step] at h
    split at h
    · exact ⟨_, ‹_›, h⟩
    · exact h.elim
end Go.Proofs.Ytjdallbnbjnghaa.Ab
