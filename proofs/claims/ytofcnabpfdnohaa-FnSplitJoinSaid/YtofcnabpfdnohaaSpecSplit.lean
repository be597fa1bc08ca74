/- spec.SplitString and impl.SplitString return the same parts. -/
import Derived.Test.YtofcnabpfdnohaaImplSplit
import Derived.Test.YtofcnabpfdnohaaSplitMath
namespace Go.Proofs.Ytofcnabpfdnohaa
open Go.RowKit
set_option linter.unusedVariables false

def OwnS (l : List ByteArray) (ok : Bool) (w : World) (e : Ending) (w' : World) : Prop :=
  ∃ A c, e = .returned (.tuple #[.slice A l.length c, .bool ok]) ∧ w'.ownsRow w.heap.size 9 1 (.slice A l.length c) l.length (l.map .string) ∧ Below w.heap.size w w'

theorem implSplit_no (s sep : ByteArray) (w : World) (hs : s.size ≤ maxLen) (hsep : sep.size ≤ maxLen) (h : 4000 < s.size ∨ sep.size ≠ 1) :
    Calls Try.prog 10 #[.string s, .string sep] w (OwnS [] false w) :=
  (implSplit_bad s sep w hs hsep h).mono fun e w' ⟨h1, h2⟩ => ⟨_, _, h1, by rw [h2]; exact own_empty w _ _ (Nat.le_refl _), by rw [h2]; exact (Below.refl _ _).alloc (Nat.le_refl _) _⟩
theorem implSplit_yes (s : ByteArray) (b : UInt8) (hs : s.size ≤ 4000) (w : World) :
    Calls Try.prog 10 #[.string s, .string ⟨#[b]⟩] w (OwnS (splitOf s b) true w) :=
  (callsIn_wide (n := 3)).1 (implSplit_in Fence.wide 3 trivial trivial trivial rfl (Nat.le_refl _) s b hs w)

set_option maxHeartbeats 1000000 in
theorem specSplit_no (s sep : ByteArray) (w : World) (hs : s.size ≤ maxLen) (hsep : sep.size ≤ maxLen) (h : 4000 < s.size ∨ sep.size ≠ 1) :
    Calls Try.prog 17 #[.string s, .string sep] w (OwnS [] false w) := by
  unfold maxLen at hs hsep
  have HO := Lib.hid (own_empty w w.heap.size 9 (Nat.le_refl _))
  have HB := Lib.hid ((Below.refl w.heap.size w).alloc (Nat.le_refl _) (.cells #[] 9))
  by_cases h1 : sep.size = 1
  · have h2 : 4000 < s.size := by omega
    have t1 : ((sep.size : Int) != 1) = false := by rw [h1]; rfl
    clear h h1
    go_enter Try.func17, Try.ntmps17
    go_wp2
    go_ret2
    exact ⟨_, _, rfl, HO.out, HB.out⟩
  · have t1 : ((sep.size : Int) != 1) = true := by rw [bne_iff_ne]; omega
    clear h h1
    go_enter Try.func17, Try.ntmps17
    go_wp2
    go_ret2
    exact ⟨_, _, rfl, HO.out, HB.out⟩

set_option maxHeartbeats 1000000 in
theorem specSplit_yes (s : ByteArray) (b : UInt8) (hs : s.size ≤ 4000) (w : World) :
    Calls Try.prog 17 #[.string s, .string ⟨#[b]⟩] w (OwnS (splitOf s b) true w) := by
  have HS := Lib.hid (fun wx => l1Split_any s b wx (by omega))
  go_enter Try.func17, Try.ntmps17
  go_wp2_with fail
  refine (HS.out _).mono ?_
  rintro e w1 ⟨A, c, rfl, hown, hb⟩
  have HO := Lib.hid hown
  clear hown
  go_wp2
  go_ret2
  exact ⟨A, c, rfl, HO.out, hb⟩

theorem split_same (s sep : ByteArray) (hs : s.size ≤ maxLen) (hsep : sep.size ≤ maxLen) : ∃ (l : List ByteArray) (ok : Bool), l.length ≤ 4001 ∧
    (∀ w : World, Calls Try.prog 17 #[.string s, .string sep] w (OwnS l ok w)) ∧ (∀ w : World, Calls Try.prog 10 #[.string s, .string sep] w (OwnS l ok w)) := by
  by_cases h : 4000 < s.size ∨ sep.size ≠ 1
  · exact ⟨[], false, by simp, fun w => specSplit_no s sep w hs hsep h, fun w => implSplit_no s sep w hs hsep h⟩
  · obtain ⟨b, rfl⟩ := one_byte (s := sep) (by omega)
    have := (splitOf_len s b).1
    exact ⟨splitOf s b, true, by omega, fun w => specSplit_yes s b (by omega) w, fun w => implSplit_yes s b (by omega) w⟩
end Go.Proofs.Ytofcnabpfdnohaa
