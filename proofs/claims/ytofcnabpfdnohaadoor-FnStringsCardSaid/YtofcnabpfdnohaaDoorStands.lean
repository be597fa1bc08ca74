/- The contract of spec.l1Stands. -/
import Derived.Test.YtofcnabpfdnohaaDoorProg
import Derived.Test.YtofcnabpfdnohaaDoorMem
import Derived.WalkSpells
import Derived.WalkLawsBesides
import Derived.LoopTactic
import Derived.Outline
import Derived.Test.YtofcnabpfdnohaaDoorJoinMath
import Derived.Deep.LoopGhost
namespace Go.Proofs.YtofcnabpfdnohaaDoor
open Go.RowKit
set_option linter.unusedVariables false


set_option maxHeartbeats 400000 in
theorem l1Stands_any (s : ByteArray) (b : UInt8) (w : World) (hs : s.size ≤ maxLen) :
    Calls Tryd.prog 33 #[.string s, .int .u8 b.toNat] w fun e w' => e = .returned (.bool (hasB s.data.toList b)) ∧ w = w' := by
  unfold maxLen at hs
  go_enter Tryd.func33, Tryd.ntmps33
  go_wp2
  go_loop [5] (fun i => ∃ k : Nat, k ≤ s.size ∧ i = .int .i64 k ∧ Hid (∀ (j : Nat) (c : UInt8), j < k → s.data.toList[j]? = some c → c ≠ b)) (fun i => s.size - (intOf i).toNat)
  case atStart => exact ⟨0, Nat.zero_le _, rfl, fun j c h => absurd h (by omega)⟩
  case round =>
    obtain ⟨k, hk, rfl, HN⟩ := hrel
    by_cases hlt : k < s.size
    · by_cases hb : s[k] = b
      · have HY : Hid (hasB s.data.toList b = true) := hasB_yes (j := k) (by rw [at_byte s k hlt, hb])
        have ht : (((s[k]).toNat : Int) == (b.toNat : Int)) = true := by rw [hb]; simp
        clear hb
        go_wp2
        go_ret
        exact ⟨by rw [HY.out]; rfl, rfl⟩
      · have ht : (((s[k]).toNat : Int) == (b.toNat : Int)) = false := by
          rw [beq_eq_false_iff_ne]
          intro e
          exact hb (UInt8.toNat_inj.1 (by omega))
        have HN2 : Hid (∀ (j : Nat) (c : UInt8), j < k + 1 → s.data.toList[j]? = some c → c ≠ b) := by
          intro j c hj hc
          by_cases e : j = k
          · subst e
            rw [at_byte s j hlt] at hc
            cases hc
            exact hb
          · exact HN.out j c (by omega) hc
        clear hb
        go_wp2
        go_round
        case rel => exact ⟨k + 1, by omega, by go_num, HN2⟩
        case measure => simp [intOf]; omega
    · have HY : Hid (hasB s.data.toList b = false) := hasB_no fun j c hc => HN.out j c (by
        obtain ⟨hj, _⟩ := List.getElem?_eq_some_iff.1 hc
        have : s.data.toList.length = s.size := by simp
        omega) hc
      go_wp2
      go_ret
      exact ⟨by rw [HY.out]; rfl, rfl⟩


theorem l1Stands_q (s : ByteArray) (b : UInt8) (w : World) (hs : s.size ≤ maxLen) :
    Calls Tryd.prog 33 #[.string s, .int .u8 b.toNat] w fun e w' => e = .returned (.bool (hasB s.data.toList b)) ∧ w' = w :=
  (l1Stands_any s b w hs).mono fun _ _ ⟨h1, h2⟩ => ⟨h1, h2.symm⟩
end Go.Proofs.YtofcnabpfdnohaaDoor
