/- The contract of impl.canJoin. -/
import Derived.Test.YtolfmoniedgmeaaDoorProg
import Derived.Test.YtolfmoniedgmeaaDoorMem
import Derived.Test.YtolfmoniedgmeaaDoorJoinMath
import Derived.WalkSpells
import Derived.WalkLawsBesides
import Derived.LoopTactic
import Derived.Deep.LoopGhost
import Derived.Outline
namespace Go.Proofs.YtolfmoniedgmeaaDoor
open Go.RowKit
set_option linter.unusedVariables false

set_option maxHeartbeats 1000000 in
theorem canJoin_any (l : List ByteArray) (A : Option Addr) (c B : Nat) (b : UInt8) (w : World) (h : Rd w B A (l.map .string)) (hl : l.length ≤ maxLen) (hs : ∀ s ∈ l, s.size ≤ 1048576) :
    Calls Tryd.prog 40 #[.slice A l.length c, .int .u8 b.toNat] w fun e w' => e = .returned (.bool (canJ b 4001 (l.map (·.data.toList)))) ∧ w = w' := by
  unfold maxLen at hl
  go_enter Tryd.func40, Tryd.ntmps40
  go_wp2
  go_step3
  go_wp2
  try go_step3
  go_wp2
  go_loopg [5, 6, 12] l.length (fun g t5 t6 t12 wr => ∃ (k : Nat) (room : Int), k + g = l.length ∧ t12 = .int .i64 k ∧ t5 = .int .i64 room ∧ t6 = .bool true ∧ 0 ≤ room ∧ room ≤ 4001 ∧ Hid (canJ b room ((l.map (·.data.toList)).drop k) = canJ b 4001 (l.map (·.data.toList))) ∧ wr = w)
  case atStart => exact ⟨0, 4001, by omega, rfl, rfl, rfl, by omega, by omega, rfl, rfl⟩
  case round =>
    obtain ⟨k, room, hkg, rfl, rfl, rfl, hr0, hr1, HC, rfl⟩ := hrel
    cases gk with
    | zero =>
      have hlt : ¬ ((k : Int) < (l.length : Int)) := by omega
      have HY : Hid (canJ b 4001 (l.map (·.data.toList)) = true) := by
        rw [← HC.out, List.drop_eq_nil_of_le (by simp; omega)]; rfl
      clear h hs
      go_wp2
      try rw [Exit.noGoto_ret]
      go_ret
      exact ⟨by rw [HY.out]; rfl, rfl⟩
    | succ g =>
      have hlt : (k : Int) < (l.length : Int) := by omega
      obtain ⟨s, hsk⟩ := at_lt l (k := k) (by omega)
      obtain ⟨b1, o1, rfl, _, hc1⟩ := h.at_ (map_at (f := .string) hsk)
      have hsz := hs s (List.mem_of_getElem? hsk)
      have hd : (l.map (·.data.toList)).drop k = s.data.toList :: (l.map (·.data.toList)).drop (k + 1) := drop_at (by rw [List.getElem?_map, hsk]; rfl)
      have hlen := data_len s
      by_cases hfull : room - ((s.size : Int) + 1) < 0
      · have HY : Hid (canJ b 4001 (l.map (·.data.toList)) = false) := by
          rw [← HC.out, hd]; exact canJ_full b room _ _ (by rw [hlen]; exact hfull)
        clear hsk hd hlen hs h
        go_wp2
        try rw [Exit.noGoto_ret]
        go_ret
        exact ⟨by rw [HY.out]; rfl, rfl⟩
      · have HS : Hid (hasB s.data.toList b = true → canJ b 4001 (l.map (·.data.toList)) = false) := by
          intro hy
          rw [← HC.out, hd]; exact canJ_has b room _ _ hy
        have HT : Hid (hasB s.data.toList b = false → canJ b (room - ((s.size : Int) + 1)) ((l.map (·.data.toList)).drop (k + 1)) = canJ b 4001 (l.map (·.data.toList))) := by
          intro hy
          rw [← HC.out, hd, canJ_step b room _ _ (by rw [hlen]; exact hfull) hy, hlen]
        clear hsk hd hlen hs h
        go_wp2
        go_loopg [6, 25] s.size (fun g2 t6 t25 wy => ∃ j : Nat, j + g2 = s.size ∧ t25 = .int .i64 j ∧ t6 = .bool true ∧ Hid (∀ (i : Nat) (c : UInt8), i < j → s.data.toList[i]? = some c → c ≠ b) ∧ wy = wr)
        case atStart => exact ⟨0, by omega, rfl, rfl, fun j c h => absurd h (by omega), rfl⟩
        case round =>
          obtain ⟨j, hjg, rfl, rfl, HN, rfl⟩ := hrel
          cases gk with
          | zero =>
            have hj : ¬ ((j : Int) < (s.size : Int)) := by omega
            have hno : hasB s.data.toList b = false := hasB_no fun i c hc => HN.out i c (by
              obtain ⟨hi, _⟩ := List.getElem?_eq_some_iff.1 hc
              have := data_len s
              omega) hc
            have HR := Lib.hid (HT.out hno)
            clear hno
            go_wp2
            go_roundg g
            case measure => omega
            case rel => exact ⟨k + 1, _, by omega, by go_num, rfl, rfl, by omega, by omega, HR, rfl⟩
          | succ g2 =>
            have hj : (j : Int) < (s.size : Int) := by omega
            have hj' : j < s.size := by omega
            by_cases hb : s[j] = b
            · have HY := Lib.hid (HS.out (hasB_yes (j := j) (by rw [at_byte s j hj', hb])))
              have ht : (((s[j]).toNat : Int) == (b.toNat : Int)) = true := by rw [hb]; simp
              clear hb
              go_wp2
              try rw [Exit.noGoto_ret]
              go_ret
              exact ⟨by rw [HY.out]; rfl, rfl⟩
            · have ht : (((s[j]).toNat : Int) == (b.toNat : Int)) = false := by
                rw [beq_eq_false_iff_ne]
                intro e
                exact hb (UInt8.toNat_inj.1 (by omega))
              have HN2 : Hid (∀ (i : Nat) (c : UInt8), i < j + 1 → s.data.toList[i]? = some c → c ≠ b) := by
                intro i c hi hc
                by_cases e : i = j
                · subst e
                  rw [at_byte s i hj'] at hc
                  cases hc
                  exact hb
                · exact HN.out i c (by omega) hc
              clear hb
              go_wp2
              go_roundg g2
              case measure => omega
              case rel => exact ⟨j + 1, by omega, by go_num, rfl, HN2, rfl⟩
end Go.Proofs.YtolfmoniedgmeaaDoor
