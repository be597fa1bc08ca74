/- The contract of impl.JoinStrings. -/
import Derived.Test.YtolfmoniedgmeaaDoorCanJoin
import Derived.Test.YtolfmoniedgmeaaDoorShelf
namespace Go.Proofs.YtolfmoniedgmeaaDoor
open Go.RowKit
set_option linter.unusedVariables false

set_option maxHeartbeats 400000 in
theorem implJoin_bad (l : List ByteArray) (A : Option Addr) (c : Nat) (sep : ByteArray) (w : World) (hl : l.length ≤ maxLen) (hs : sep.size ≤ maxLen) (h : sep.size ≠ 1 ∨ l.length = 0) :
    Calls Tryd.prog 31 #[.slice A l.length c, .string sep] w fun e w' => e = .returned (.tuple #[.string ⟨#[]⟩, .bool false]) ∧ w = w' := by
  unfold maxLen at hl hs
  by_cases h2 : l.length = 0
  · have t2 : ((l.length : Int) == 0) = true := by rw [h2]; rfl
    have H := Lib.hid h2
    clear h2 h
    go_enter Tryd.func31, Tryd.ntmps31
    go_wp2
    go_ret2
    exact ⟨rfl, rfl⟩
  · have h1 : sep.size ≠ 1 := by omega
    have t1 : ((sep.size : Int) != 1) = true := by rw [bne_iff_ne]; omega
    have t2 : ((l.length : Int) == 0) = false := by rw [beq_eq_false_iff_ne]; omega
    clear h h1
    go_enter Tryd.func31, Tryd.ntmps31
    go_wp2
    go_ret2
    exact ⟨rfl, rfl⟩

set_option maxHeartbeats 1000000 in
theorem implJoin_at (l : List ByteArray) (A : Option Addr) (c : Nat) (b : UInt8) (w : World) (h : Rd w w.heap.size A (l.map .string)) (hl : l.length ≤ 1048576) (hlc : l.length ≤ c) (hs : ∀ s ∈ l, s.size ≤ 1048576) (hne : 0 < l.length) :
    Calls Tryd.prog 31 #[.slice A l.length c, .string ⟨#[b]⟩] w fun e w' => e = .returned (.tuple #[.string (joinStr b (l.map (·.data.toList))), .bool (canJ b 4001 (l.map (·.data.toList)))]) ∧ Below w.heap.size w w' := by
  have hlm : l.length ≤ maxLen := by unfold maxLen; omega
  have t2 : ((l.length : Int) == 0) = false := by rw [beq_eq_false_iff_ne]; omega
  have hcan := fun wx (hx : Drew w wx) => canJoin_any l A c w.heap.size b wx (h.drawn hx) hlm hs
  by_cases hc : canJ b 4001 (l.map (·.data.toList)) = true
  · rw [hc] at hcan ⊢
    rw [joinStr_yes hc]
    obtain ⟨b1, o1, hA, hb1, hcell⟩ := h (by simpa using hne)
    subst hA
    have hj := fun wx (hx : Drew w wx) => Tryd.strings_Join b1 o1 c l ⟨#[b]⟩ wx (fun j x hj => (hx.cell _).trans (hcell j _ (map_at hj))) (by rw [hx.size]; exact hb1) (by omega) hlc (Nat.le_trans (joinLen hc) (by omega))
    have HC := Lib.hid hcan
    have HJ := Lib.hid hj
    clear hcan hj hcell hc h hs hlm
    go_enter Tryd.func31, Tryd.ntmps31
    go_wp2_with (first | (go_at_call 40; refine (HC.out _ (Drew.refl _)).mono ?_; rintro e w' ⟨rfl, rfl⟩) | (go_at_call 41; refine (HJ.out _ (Drew.refl _)).mono ?_; rintro e w' ⟨rfl, hb⟩))
    go_ret2
    exact ⟨rfl, hb⟩
  · have hc2 : canJ b 4001 (l.map (·.data.toList)) = false := by simpa using hc
    rw [hc2] at hcan ⊢
    rw [joinStr_no hc2]
    have HC := Lib.hid hcan
    clear hcan hc hc2 h hs hlm
    go_enter Tryd.func31, Tryd.ntmps31
    go_wp2_with (go_at_call 40; refine (HC.out _ (Drew.refl _)).mono ?_; rintro e w' ⟨rfl, rfl⟩)
    go_ret2
    exact ⟨rfl, Below.refl _ _⟩
end Go.Proofs.YtolfmoniedgmeaaDoor
