/- The draws of FnSplitJoin: a text and a separator; two texts. -/
import Derived.Test.YtofcnabpfdnohaaOf
import Derived.Test.YtofcnabpfdnohaaShell
namespace Go.Proofs.Ytofcnabpfdnohaa
open Go.RowKit
set_option linter.unusedVariables false

/-- The bytes of the code are there. -/
def CodeIs (w : World) (A : Option Addr) (n : Nat) : Prop :=
  ∃ xs : List Int, xs.length = n ∧ Rd w w.heap.size A (xs.map (Value.int .u8)) ∧ ∀ x ∈ xs, 0 ≤ x ∧ x ≤ 255
theorem CodeIs.below {w w' : World} {A : Option Addr} {n : Nat} (h : CodeIs w A n) (hb : Below w.heap.size w w') : CodeIs w' A n := by
  obtain ⟨xs, h1, h2, h3⟩ := h
  exact ⟨xs, h1, (h2.below hb).more hb.size, h3⟩

theorem cur_new {w : World} {A : Option Addr} {n c : Nat} (h : CodeIs w A n) (hn : n ≤ 70000) :
    CurIs (w.alloc (.cells #[.slice A n c, .int .i64 0, .int .u64 0] 44)) w.heap.size 0 w.heap.size := by
  obtain ⟨xs, rfl, hR, hxs⟩ := h
  refine ⟨A, c, 0, 0, xs, heap_alloc_new w _, Nat.le_refl _, hn, ?_, hxs, Nat.le_refl _⟩
  exact hR.below ((Below.refl _ _).alloc (Nat.le_refl _) _)
theorem cur_below {w w' : World} {b : Obj} (h : (w.alloc b).grownBy w' (some w.heap.size)) : Below w.heap.size w w' := by
  have h2 := grownBy_tr (World.grownBy_alloc w b (some w.heap.size)) h
  exact ⟨h2.os, h2.tape, h2.output, h2.size, fun k hk => h2.block k (by omega) (fun e => by cases e; omega)⟩

def sepsOf : List ByteArray := [⟨#[44]⟩, ⟨#[44]⟩, ⟨#[32]⟩, ⟨#[]⟩, ⟨#[44, 44]⟩]
def marksOf : List ByteArray := [⟨#[44]⟩, ⟨#[59]⟩, ⟨#[59]⟩, ⟨#[]⟩, ⟨#[97, 98]⟩]

def TwoPost (l1 l2 : List ByteArray) (w : World) (e : Ending) (w' : World) : Prop :=
  ∃ s b : ByteArray, s ∈ l1 ∧ b ∈ l2 ∧ e = .returned (.tuple #[.string s, .string b]) ∧ Below w.heap.size w w'

set_option maxHeartbeats 2000000 in
theorem drawSplit_any (A : Option Addr) (n c : Nat) (w : World) (h : CodeIs w A n) (hn : n ≤ 65536) :
    Calls Try.prog 9 #[.slice A n c] w (TwoPost texts9 sepsOf w) := by
  have hcur := cur_new (c := c) h (by omega)
  obtain ⟨W, hW⟩ : ∃ W, w.alloc (.cells #[.slice A n c, .int .i64 0, .int .u64 0] 44) = W := ⟨_, rfl⟩
  rw [hW] at hcur
  have H1 := Lib.hid (any1_any W w.heap.size 0 w.heap.size hcur (by omega))
  have HB := Lib.hid (show ∀ w', W.grownBy w' (some w.heap.size) → Below w.heap.size w w' from fun w' hw' => cur_below (by rw [hW]; exact hw'))
  clear h hcur
  go_enter Try.func9, Try.ntmps9
  go_wp2_with fail
  try rw [show (w.alloc (.cells #[.slice A n c, .int .i64 0, .int .u64 0] 44)) = W from hW]
  refine H1.out.mono ?_
  rintro e w1 ⟨s, hs, rfl, hc1, hg1⟩
  obtain ⟨V, hV⟩ : ∃ V, w1.alloc (.cells (sepsOf.map Value.string).toArray 9) = V := ⟨_, rfl⟩
  have hlt : w.heap.size < w1.heap.size := by have := hg1.size; rw [← hW] at this; simp at this; omega
  have hg2 : w1.grownBy V (some w.heap.size) := by rw [← hV]; exact World.grownBy_alloc w1 _ _
  have hcur2 : CurIs V w.heap.size 2 w.heap.size := hc1.kept (row := none) (by rw [← hV]; exact World.grownBy_alloc w1 _ _) (by simp) (fun _ e => by cases e)
  have H2 := Lib.hid (of_any sepsOf w1.heap.size 5 V w.heap.size 2 w.heap.size hcur2 (by omega) (by decide) (by decide) (by omega) (by rw [← hV]; simp) (fun k s hs => by
    rw [← hV, cell_of_row _ _ k _ 9 (0, 0) (heap_alloc_new w1 _)]
    simp only [List.getElem?_toArray]
    exact map_at hs))
  have HS := Lib.hid hs
  have HG := Lib.hid (grownBy_tr hg1 hg2)
  clear hs hc1 hg1 hg2 hcur2 hW
  go_wp2_with fail
  try rw [show (w1.alloc (.cells #[.string ⟨#[44]⟩, .string ⟨#[44]⟩, .string ⟨#[32]⟩, .string ⟨#[]⟩, .string ⟨#[44, 44]⟩] 9)) = V from hV]
  refine H2.out.mono ?_
  rintro e w2 ⟨b, hb, rfl, hc2, hg2⟩
  have HT := Lib.hid hb
  have HF := Lib.hid (HB.out _ (grownBy_tr HG.out hg2))
  clear hb hc2 hg2 hV
  go_wp2
  go_ret2
  exact ⟨s, b, HS.out, HT.out, rfl, HF.out⟩

set_option maxHeartbeats 2000000 in
theorem drawLess_any (A : Option Addr) (n c : Nat) (w : World) (h : CodeIs w A n) (hn : n ≤ 65536) :
    Calls Try.prog 14 #[.slice A n c] w (TwoPost texts9 texts9 w) := by
  have hcur := cur_new (c := c) h (by omega)
  obtain ⟨W, hW⟩ : ∃ W, w.alloc (.cells #[.slice A n c, .int .i64 0, .int .u64 0] 44) = W := ⟨_, rfl⟩
  rw [hW] at hcur
  have H1 := Lib.hid (any1_any W w.heap.size 0 w.heap.size hcur (by omega))
  have HB := Lib.hid (show ∀ w', W.grownBy w' (some w.heap.size) → Below w.heap.size w w' from fun w' hw' => cur_below (by rw [hW]; exact hw'))
  clear h hcur
  go_enter Try.func14, Try.ntmps14
  go_wp2_with fail
  try rw [show (w.alloc (.cells #[.slice A n c, .int .i64 0, .int .u64 0] 44)) = W from hW]
  refine H1.out.mono ?_
  rintro e w1 ⟨s, hs, rfl, hc1, hg1⟩
  have H2 := Lib.hid (any1_any w1 w.heap.size 2 w.heap.size hc1 (by omega))
  have HS := Lib.hid hs
  have HG := Lib.hid hg1
  clear hs hc1 hg1 hW
  go_wp2_with fail
  refine H2.out.mono ?_
  rintro e w2 ⟨b, hb, rfl, hc2, hg2⟩
  have HT := Lib.hid hb
  have HF := Lib.hid (HB.out _ (grownBy_tr HG.out hg2))
  clear hb hc2 hg2
  go_wp2
  go_ret2
  exact ⟨s, b, HS.out, HT.out, rfl, HF.out⟩
end Go.Proofs.Ytofcnabpfdnohaa
