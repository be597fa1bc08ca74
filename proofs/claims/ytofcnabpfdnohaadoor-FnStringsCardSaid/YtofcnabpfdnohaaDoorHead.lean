/- The first part of a sealed text is the text; a byte changed by xor; what impl.VerifyChecksum answers to both. -/
import Derived.Test.YtofcnabpfdnohaaDoorChanged
import Derived.Laws.BitsAllLaws
import Derived.Laws.IdiomStrings
import Derived.Laws.BytesArg
namespace Go.Proofs.YtofcnabpfdnohaaDoor
open Go.RowKit
set_option linter.unusedVariables false

theorem cuts_before {s : ByteArray} {b : UInt8} {X R : List UInt8} (hs : s.data.toList = X ++ b :: R) (hX : ∀ j : Nat, X[j]? ≠ some b) : ∀ k, k ≤ X.length → cuts s b k = (0, []) := by
  intro k
  induction k with
  | zero => intro _; rfl
  | succ k ih =>
    intro hk
    rw [cuts_miss (by rw [hs, List.getElem?_append_left (by omega)]; exact hX k)]
    exact ih (by omega)
theorem cuts_after {s : ByteArray} {b : UInt8} {X R : List UInt8} (hs : s.data.toList = X ++ b :: R) (hX : ∀ j : Nat, X[j]? ≠ some b) : ∀ k, X.length + 1 ≤ k → ∃ r, (cuts s b k).2 = s.extract 0 X.length :: r := by
  intro k
  induction k with
  | zero => intro h; omega
  | succ k ih =>
    intro hk
    by_cases e : k = X.length
    · subst e
      rw [cuts_hit (by rw [hs, List.getElem?_append_right (Nat.le_refl _)]; simp), cuts_before hs hX _ (Nat.le_refl _)]
      exact ⟨[], rfl⟩
    · obtain ⟨r, hr⟩ := ih (by omega)
      by_cases hh : s.data.toList[k]? = some b
      · rw [cuts_hit hh, hr]; exact ⟨_, rfl⟩
      · rw [cuts_miss hh, hr]; exact ⟨_, rfl⟩
theorem head_seal (x : ByteArray) (h : hasB x.data.toList 35 = false) : headOf (sealB x) hash = x := by
  have hs : (sealB x).data.toList = x.data.toList ++ hash :: ckDigits x.data.toList := by rw [seal_data]; simp [hash]
  have hX : ∀ j : Nat, x.data.toList[j]? ≠ some hash := fun j hj => no35 h hj
  have hz : x.data.toList.length + 1 ≤ (sealB x).size := by rw [seal_size, data_len]; omega
  obtain ⟨r, hr⟩ := cuts_after hs hX (sealB x).size hz
  unfold headOf splitOf
  rw [hr]
  show (sealB x).extract 0 x.data.toList.length = x
  have e : ((sealB x).extract 0 x.data.toList.length).data.toList = x.data.toList := by
    rw [extract_take, hs, List.take_left']
    rfl
  rw [← mk_list ((sealB x).extract 0 x.data.toList.length), e, mk_list]

theorem xor_ne (a d : Nat) (ha : a < 256) (hd : d < 256) (h0 : 0 < d) : ∃ z : Nat, bits .xor .u8 (a : Int) (d : Int) = (z : Int) ∧ z < 256 ∧ z ≠ a := by
  refine ⟨a ^^^ d, u8_xor_nat a d ha hd, Nat.xor_lt_two_pow (n := 8) ha hd, fun e => ?_⟩
  have h := congrArg (a ^^^ ·) e
  simp only [← Nat.xor_assoc, Nat.xor_self, Nat.zero_xor] at h
  omega

/-- The sealed text with byte k made z. -/
def spoilt (y : ByteArray) (k : Nat) (z : UInt8) : ByteArray := ⟨(y.data.toList.set k z).toArray⟩
theorem spoilt_size (y : ByteArray) (k : Nat) (z : UInt8) : (spoilt y k z).size = y.size := by
  unfold spoilt; rw [size_mk, List.length_set, data_len]
theorem spoilt_no (x : ByteArray) (h : hasB x.data.toList 35 = false) (k : Nat) (a z : UInt8) (hk : (sealB x).data.toList[k]? = some a) (hz : a ≠ z) :
    sealB (headOf (spoilt (sealB x) k z) hash) ≠ spoilt (sealB x) k z := by
  intro e
  have hs : (sealB x).data.toList = x.data.toList ++ 35 :: ckDigits x.data.toList := by rw [seal_data]; simp
  have e2 := congrArg (fun b : ByteArray => b.data.toList) e

  rw [seal_data] at e2
  have e3 : (spoilt (sealB x) k z).data.toList = (x.data.toList ++ 35 :: ckDigits x.data.toList).set k z := by unfold spoilt; rw [hs]
  rw [e3] at e2
  rw [hs] at hk
  exact changed_list x.data.toList (headOf (spoilt (sealB x) k z) hash).data.toList h (head_no _ hash) k a z hk hz (by rw [← e2]; simp)

theorem implVer_seal (x : ByteArray) (hok : appOk x = true) (w : World) (htab : Lib.TabIs Tryd.prog w "internal/strconv.uint64pow10" .u64 Lib.pow10Tab) :
    Calls Tryd.prog 18 #[.string (sealB x)] w fun e w' => e = .returned (.tuple #[.string x, .bool true]) ∧ Below w.heap.size w w' := by
  obtain ⟨h1, h2, h3⟩ := app_bound hok
  have hh := head_seal x h2
  exact implVer_at (sealB x) w h3 htab x true (fun _ => ⟨hh.symm, rfl⟩) (fun hn => absurd (by rw [hh]) hn)
theorem implVer_spoilt (x : ByteArray) (hok : appOk x = true) (k : Nat) (a z : UInt8) (hk : (sealB x).data.toList[k]? = some a) (hz : a ≠ z) (w : World) (htab : Lib.TabIs Tryd.prog w "internal/strconv.uint64pow10" .u64 Lib.pow10Tab) :
    Calls Tryd.prog 18 #[.string (spoilt (sealB x) k z)] w fun e w' => e = .returned (.tuple #[.string ⟨#[]⟩, .bool false]) ∧ Below w.heap.size w w' := by
  obtain ⟨h1, h2, h3⟩ := app_bound hok
  exact implVer_at (spoilt (sealB x) k z) w (by rw [spoilt_size]; exact h3) htab _ _ (fun e => absurd e (spoilt_no x h2 k a z hk hz)) (fun _ => ⟨rfl, rfl⟩)
end Go.Proofs.YtofcnabpfdnohaaDoor
