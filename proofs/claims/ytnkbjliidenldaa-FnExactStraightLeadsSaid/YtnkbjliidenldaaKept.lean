/- Slices of numbers: those that came in, those that the call made, each in its own range of blocks; what a write into a range keeps. -/
import Derived.Test.YtnkbjliidenldaaMem
import Derived.Laws.OwnMore
import Derived.Deep.Draws
namespace Go.Proofs.Ytnkbjliidenldaa
open Go.RowKit
set_option linter.unusedVariables false

/-- All blocks that lay there, but for those of the range lo..hi-1, lie as they lay. -/
structure Kept (lo hi : Nat) (w w' : World) : Prop where
  os : w'.os = w.os
  tape : w'.tape = w.tape
  output : w'.output = w.output
  size : w.heap.size ≤ w'.heap.size
  block : ∀ k, k < w.heap.size → (k < lo ∨ hi ≤ k) → w'.heap[k]? = w.heap[k]?
theorem Kept.refl (lo hi : Nat) (w : World) : Kept lo hi w w := ⟨rfl, rfl, rfl, Nat.le_refl _, fun _ _ _ => rfl⟩
theorem Kept.trans {lo hi : Nat} {a b c : World} (h : Kept lo hi a b) (h2 : Kept lo hi b c) : Kept lo hi a c :=
  ⟨h2.os.trans h.os, h2.tape.trans h.tape, h2.output.trans h.output, Nat.le_trans h.size h2.size, fun k hk hr => (h2.block k (Nat.lt_of_lt_of_le hk h.size) hr).trans (h.block k hk hr)⟩
theorem Kept.wider {lo hi lo' hi' : Nat} {w w' : World} (h : Kept lo hi w w') (h1 : lo' ≤ lo) (h2 : hi ≤ hi') : Kept lo' hi' w w' :=
  ⟨h.os, h.tape, h.output, h.size, fun k hk hr => h.block k hk (by omega)⟩
theorem Kept.below {lo hi B : Nat} {w w' : World} (h : Kept lo hi w w') (h1 : B ≤ lo) (h2 : B ≤ w.heap.size) : Below B w w' :=
  ⟨h.os, h.tape, h.output, h.size, fun k hk => h.block k (by omega) (.inl (by omega))⟩
theorem Kept.of_below {lo hi : Nat} {w w' : World} (h : Below w.heap.size w w') : Kept lo hi w w' :=
  ⟨h.os, h.tape, h.output, h.size, fun k hk _ => h.block k hk⟩
theorem Kept.drew {lo hi : Nat} {w w' : World} (h : Drew w w') : Kept lo hi w w' := .of_below (h.below _)
theorem Kept.set {lo hi : Nat} {w : World} {b off : Nat} (h1 : lo ≤ b) (h2 : b < hi) (v : Value) : Kept lo hi w (w.setCell ⟨b, off, none⟩ v) := by
  have h0 := (Below.refl lo w).setCell (p := ⟨b, off, none⟩) h1 v
  exact ⟨h0.os, h0.tape, h0.output, h0.size, fun k hk hr => Below.heap_setCell w _ v k (by show k ≠ b; omega)⟩

/-- A slice of numbers, somewhere. -/
def IntsIn (w : World) (v : Value) (l : List Int) : Prop :=
  ∃ A c, v = .slice A l.length c ∧ l.length ≤ c ∧ c ≤ maxLen ∧ Rd w w.heap.size A (l.map (Value.int .i64))
theorem IntsIn.below {w w' : World} {v : Value} {l : List Int} (h : IntsIn w v l) (hb : Below w.heap.size w w') : IntsIn w' v l := by
  obtain ⟨A, c, h1, h2, h3, h4⟩ := h
  exact ⟨A, c, h1, h2, h3, (h4.below hb).more hb.size⟩
theorem IntsIn.nil (w : World) (c : Nat) (A : Option Addr) (h : c ≤ maxLen) : IntsIn w (.slice A 0 c) [] := ⟨A, c, rfl, Nat.zero_le _, h, Rd.nil _ _ _⟩

/-- A slice of numbers of its own, in a block of the range lo..hi-1. -/
def OwnInts (w : World) (lo hi : Nat) (v : Value) (l : List Int) : Prop :=
  w.ownsRow lo 3 1 v l.length (l.map (Value.int .i64)) ∧ ∀ g, v.ownBlock = some g → g < hi
theorem OwnInts.form {w : World} {lo hi : Nat} {v : Value} {l : List Int} (h : OwnInts w lo hi v l) :
    ∃ A c, v = .slice A l.length c ∧ l.length ≤ c ∧ c ≤ maxLen := by
  rcases h.1.2 with ⟨rfl, h0⟩ | ⟨g, cap, cur, rfl, _, _, h1, h2, _⟩
  · exact ⟨none, 0, by rw [h0], by omega, Nat.zero_le _⟩
  · exact ⟨_, _, rfl, h1, h2⟩
theorem OwnInts.ints {w : World} {lo hi : Nat} {v : Value} {l : List Int} (h : OwnInts w lo hi v l) : IntsIn w v l := by
  obtain ⟨A, c, rfl, h1, h2⟩ := h.form
  exact ⟨A, c, rfl, h1, h2, Rd.own h.1⟩
theorem own_rest {w w' : World} {base : Nat} {e : TypeId} {size n : Nat} {v : Value} {xs : List Value} (h : w.ownsRow base e size v n xs) (hb : ∀ g, v.ownBlock = some g → w'.heap[g]? = w.heap[g]?) : w'.ownsRow base e size v n xs := by
  refine ⟨h.1, ?_⟩
  rcases h.2 with hn | ⟨g, cap, cur, rfl, hbg, hgg, rest⟩
  · exact .inl hn
  · exact .inr ⟨g, cap, cur, rfl, hbg, (hb g rfl).trans hgg, rest⟩
theorem own_block {w : World} {base : Nat} {e : TypeId} {size n : Nat} {v : Value} {xs : List Value} (h : w.ownsRow base e size v n xs) : ∀ g, v.ownBlock = some g → base ≤ g ∧ g < w.heap.size := by
  intro k hk
  rcases h.2 with ⟨rfl, rfl⟩ | ⟨g, cap, cur, rfl, hb, hg, _⟩
  · cases hk
  · simp only [Value.ownBlock, Option.some.injEq] at hk
    subst hk
    exact ⟨hb, (Array.getElem?_eq_some_iff.1 hg).1⟩
theorem own_rebase {w : World} {b b' : Nat} {e : TypeId} {size n : Nat} {v : Value} {xs : List Value} (h : w.ownsRow b e size v n xs) (hb : b' ≤ b) : w.ownsRow b' e size v n xs := by
  refine ⟨h.1, ?_⟩
  rcases h.2 with hn | ⟨g, cap, cur, rfl, hbg, rest⟩
  · exact .inl hn
  · exact .inr ⟨g, cap, cur, rfl, by omega, rest⟩
theorem own_at' {w : World} {base : Nat} {e : TypeId} {n c : Nat} {A : Option Addr} {xs : List Value} (h : w.ownsRow base e 1 (.slice A n c) n xs) (hn : 0 < n) : ∃ g, A = some ⟨g, 0, none⟩ ∧ base ≤ g ∧ g < w.heap.size := by
  rcases h.2 with ⟨_, h0⟩ | ⟨g, cap, cur, hv, hb, hg, _⟩
  · omega
  · simp only [Value.slice.injEq] at hv
    exact ⟨g, hv.1, hb, (Array.getElem?_eq_some_iff.1 hg).1⟩
theorem OwnInts.kept {w w' : World} {lo hi lo' hi' : Nat} {v : Value} {l : List Int} (h : OwnInts w lo hi v l) (hk : Kept lo' hi' w w') (hd : hi ≤ lo' ∨ hi' ≤ lo) : OwnInts w' lo hi v l :=
  ⟨own_rest h.1 fun g hg => by
    have h1 := own_block h.1 g hg
    have h2 := h.2 g hg
    exact hk.block g h1.2 (by omega), h.2⟩
theorem OwnInts.below {w w' : World} {lo hi B : Nat} {v : Value} {l : List Int} (h : OwnInts w lo hi v l) (hb : Below B w w') (hd : hi ≤ B) : OwnInts w' lo hi v l :=
  ⟨own_rest h.1 fun g hg => by
    have h2 := h.2 g hg
    exact hb.block g (by omega), h.2⟩
theorem OwnInts.now {w : World} {lo : Nat} {v : Value} {l : List Int} (h : w.ownsRow lo 3 1 v l.length (l.map (Value.int .i64))) : OwnInts w lo w.heap.size v l :=
  ⟨h, fun g hg => (own_block h g hg).2⟩
theorem OwnInts.wider {w : World} {lo hi lo' hi' : Nat} {v : Value} {l : List Int} (h : OwnInts w lo hi v l) (h1 : lo' ≤ lo) (h2 : hi ≤ hi') : OwnInts w lo' hi' v l :=
  ⟨own_rebase h.1 h1, fun g hg => Nat.lt_of_lt_of_le (h.2 g hg) h2⟩
end Go.Proofs.Ytnkbjliidenldaa
