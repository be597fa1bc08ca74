/- Finite facts of FnSplitJoin; the opening of bytes; LessString's contracts. -/
import Derived.Test.YtofcnabpfdnohaaDrawJoin
import Derived.Test.YtofcnabpfdnohaaJoinStrings
import Derived.Test.YtofcnabpfdnohaaSpecSplit
import Derived.Test.YtofcnabpfdnohaaOpen
import Derived.ChangeSlices
import Derived.WalkKit
import Derived.WalkSpells
import Derived.WalkLawsBesides
namespace Go.Proofs.Ytofcnabpfdnohaa
open Go.ChangeShapes Go.WideShapes Go.ChangeAt Go.RowKit
open Go.WideMaps Go.WideElems Go.Proofs.Ytofcnabpfdnohaa.joinStrings
set_option linter.unusedVariables false

theorem open_ints_rd {H : Type} {enc : TypeId × Value → H} {P : Program} {W : World} {base : Nat} {t e : TypeId} {k : IntKind} {v : Value} {d : DataW H} {ps : List MemPlace}
    (ht : P.underlying t = some (.slice e)) (he : P.underlying e = some (.int k)) (hc : P.cellsOf e = 1)
    (hval : Value.okWide P W .any base t v) (h : DataW.Trod enc P W 0 (fun _ => true) true t v d ps) :
    ∃ (A : Option Addr) (l : List Int) (c : Nat), v = .slice A l.length c ∧ Rd W W.heap.size A (l.map (Value.int k)) ∧ l.length ≤ c ∧ c ≤ maxLen ∧ ∀ n ∈ l, k.min ≤ n ∧ n ≤ k.max := by
  obtain ⟨a0, len, cap, rfl⟩ := okWide_slice ht hval
  obtain ⟨fuel, hf⟩ := h
  rcases Go.ChangeShapes.open_ints ht he hc hf with ⟨hcs, _⟩ | ⟨a, len', cap', zs, hcs, _, hl, hm, hz, _, hcell, hwf⟩
  · simp [Value.cells] at hcs
    obtain ⟨rfl, rfl, rfl⟩ := hcs
    exact ⟨none, [], 0, rfl, Rd.nil _ _ _, Nat.le_refl _, Nat.zero_le _, fun s hs => by cases hs⟩
  · simp [Value.cells] at hcs
    obtain ⟨rfl, rfl, rfl⟩ := hcs
    simp only [if_true] at hz
    have hlen : (zs.take len).length = len := by rw [List.length_take]; omega
    refine ⟨some a, zs.take len, cap, by rw [hlen], rd_of fun i u hu => ?_, by rw [hlen]; exact hl, hm, fun s hs => by
      have := hwf s (List.mem_of_mem_take hs)
      simpa [Lit.wf] using this⟩
    rw [List.getElem?_map, List.getElem?_take] at hu
    by_cases hi : i < len
    · rw [if_pos hi] at hu
      have hi2 : i < zs.length := by omega
      rw [hcell i hi2]
      rw [List.getElem?_eq_getElem hi2] at hu
      rw [List.getD_eq_getElem?_getD, List.getElem?_eq_getElem hi2]
      simpa using hu
    · rw [if_neg hi] at hu; cases hu

theorem back_join : ∀ s ∈ texts9, ∀ b ∈ [(44 : UInt8), 32], joinStr b ((splitOf s b).map (·.data.toList)) = s ∧ canJ b 4001 ((splitOf s b).map (·.data.toList)) = true ∧ 0 < (splitOf s b).length ∧ (∀ x ∈ splitOf s b, x.size ≤ 4000) := by decide +kernel
theorem sep_cases : ∀ sep ∈ sepsOf, sep.size ≠ 1 ∨ ∃ b ∈ [(44 : UInt8), 32], sep = ⟨#[b]⟩ := by decide +kernel
theorem sep_size : ∀ sep ∈ sepsOf, sep.size ≤ 2 := by decide +kernel
theorem mark_size : ∀ sep ∈ marksOf, sep.size ≤ 2 := by decide +kernel
theorem less_asym0 : ∀ a ∈ texts9, ∀ b ∈ texts9, (Op.bytesLess a.data.toList b.data.toList && Op.bytesLess b.data.toList a.data.toList) = false := by decide +kernel
theorem less_asym (a b : ByteArray) (ha : a ∈ texts9) (hb : b ∈ texts9) : (Op.bytesLess a.toList b.toList && Op.bytesLess b.toList a.toList) = false := by
  rw [Lib.toList_data, Lib.toList_data]; exact less_asym0 a ha b hb

theorem implLess_any (a b : ByteArray) (w : World) :
    Calls Try.prog 15 #[.string a, .string b] w fun e w' => e = .returned (.bool (Op.bytesLess a.toList b.toList)) ∧ w = w' := by
  go_enter Try.func15, Try.ntmps15
  go_wp2
  go_ret
  exact ⟨rfl, rfl⟩
theorem specLess_any (a b : ByteArray) (w : World) :
    Calls Try.prog 16 #[.string a, .string b] w fun e w' => e = .returned (.bool (Op.bytesLess a.toList b.toList)) ∧ w = w' := by
  go_enter Try.func16, Try.ntmps16
  go_wp2
  go_ret
  exact ⟨rfl, rfl⟩
theorem vBig_any (A : Option Addr) (n c : Nat) (hn : n ≤ 65536) (w : World) :
    Calls Try.prog 8 #[.slice A n c] w fun e w' => e = .returned (.bool false) ∧ w = w' := by
  have t : decide ((65536 : Int) < (n : Int)) = false := by simp; omega
  go_enter Try.func8, Try.ntmps8
  go_wp2
  go_ret
  exact ⟨rfl, rfl⟩
theorem vBig_yes (A : Option Addr) (n c : Nat) (hn : 65536 < n) (hm : n ≤ maxLen) (w : World) :
    Calls Try.prog 8 #[.slice A n c] w fun e w' => e = .returned (.bool true) ∧ w = w' := by
  unfold maxLen at hm
  have t : decide ((65536 : Int) < (n : Int)) = true := by simp; omega
  go_enter Try.func8, Try.ntmps8
  go_wp2
  go_ret
  exact ⟨rfl, rfl⟩

/-- What impl.SplitString gives for a text and a separator drawn. -/
theorem split_drawn (s sep : ByteArray) (hs : s ∈ texts9) (hsep : sep ∈ sepsOf) : ∃ (l : List ByteArray) (ok : Bool), l.length ≤ 4001 ∧
    (∀ w : World, Calls Try.prog 10 #[.string s, .string sep] w (OwnS l ok w)) ∧
    ((sep.size ≠ 1 ∧ ok = false ∧ l = []) ∨ (sep.size = 1 ∧ ok = true ∧
      ∀ (A : Option Addr) (c : Nat) (w : World), Rd w w.heap.size A (l.map .string) → l.length ≤ c → Calls Try.prog 12 #[.slice A l.length c, .string sep] w fun e w' => e = .returned (.tuple #[.string s, .bool true]) ∧ Below w.heap.size w w')) := by
  have hz := texts9_size s hs
  have hz2 := sep_size sep hsep
  rcases sep_cases sep hsep with h | ⟨b, hb, rfl⟩
  · exact ⟨[], false, by simp, fun w => implSplit_no s sep w (by unfold maxLen; omega) (by unfold maxLen; omega) (.inr h), .inl ⟨h, rfl, rfl⟩⟩
  · obtain ⟨h1, h2, h3, h4⟩ := back_join s hs b hb
    have hl := (splitOf_len s b).1
    refine ⟨splitOf s b, true, by omega, fun w => implSplit_yes s b (by omega) w, .inr ⟨rfl, rfl, fun A c w h hc => ?_⟩⟩
    have := implJoin_at (splitOf s b) A c b w h (by omega) hc (fun x hx => Nat.le_trans (h4 x hx) (by omega)) h3
    rw [h1, h2] at this
    exact this
end Go.Proofs.Ytofcnabpfdnohaa
