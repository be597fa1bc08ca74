/- The contract of spec.l1Split: a new slice of the parts. -/
import Derived.Test.YtofcnabpfdnohaaDoorProg
import Derived.Test.YtofcnabpfdnohaaDoorMem
import Derived.Test.YtofcnabpfdnohaaDoorSplitMath
import Derived.WalkSpells
import Derived.WalkLawsBesides
import Derived.LoopTactic
import Derived.OwnWalk
import Derived.Maps.AppendAt
import Derived.Outline
namespace Go.Proofs.YtofcnabpfdnohaaDoor
open Go.RowKit
set_option linter.unusedVariables false

theorem infoString : (Tryd.prog.info? 9).map (fun i => (i.zero, i.size, i.bytes)) = some (some (.string ⟨#[]⟩), 1, 16) := by kernel_rfl

def OwnStrs (l : List ByteArray) (w : World) (e : Ending) (w' : World) : Prop :=
  ∃ A c, e = .returned (.slice A l.length c) ∧ w'.ownsRow w.heap.size 9 1 (.slice A l.length c) l.length (l.map .string) ∧ Below w.heap.size w w'

theorem own_empty (w : World) (base : Nat) (e : TypeId) (h : base ≤ w.heap.size) : (w.alloc (.cells #[] e)).ownsRow base e 1 (.slice (some ⟨w.heap.size, 0, none⟩) 0 0) 0 [] :=
  ⟨rfl, .inr ⟨w.heap.size, 0, #[], rfl, h, heap_alloc_new w _, Nat.le_refl _, by unfold maxLen; omega, rfl, rfl⟩⟩
theorem own_shape {w : World} {base : Nat} {e : TypeId} {v : Value} {n : Nat} {xs : List Value} (h : w.ownsRow base e 1 v n xs) : ∃ A c, v = .slice A n c := by
  rcases h.2 with ⟨rfl, rfl⟩ | ⟨g, cap, cur, rfl, _⟩
  · exact ⟨none, 0, rfl⟩
  · exact ⟨_, _, rfl⟩

theorem own_ge {w : World} {base : Nat} {e : TypeId} {size n : Nat} {v : Value} {xs : List Value} (h : w.ownsRow base e size v n xs) {k : Nat} (hk : v.ownBlock = some k) : base ≤ k := by
  rcases h.2 with ⟨rfl, rfl⟩ | ⟨g, cap, cur, rfl, hb, _⟩
  · cases hk
  · simp only [Value.ownBlock, Option.some.injEq] at hk
    omega

set_option maxHeartbeats 1000000 in
theorem l1Split_any (s : ByteArray) (b : UInt8) (w : World) (hs : s.size ≤ 1048576) :
    Calls Tryd.prog 36 #[.string s, .int .u8 b.toNat] w (OwnStrs (splitOf s b) w) := by
  obtain ⟨i0, hi, hz0, hz1, hz2⟩ := info_parts infoString
  go_enter Tryd.func36, Tryd.ntmps36
  go_wp2
  have hsm : s.size ≤ 1048576 := hs
  go_loopw [5, 6, 7] (fun t5 t6 t7 wr => ∃ (k f : Nat) (ps : List ByteArray), k ≤ s.size ∧ f ≤ k ∧ ps.length ≤ k ∧ t7 = .int .i64 k ∧ t6 = .int .i64 f ∧ Hid (cuts s b k = (f, ps)) ∧ wr.ownsRow w.heap.size 9 1 t5 ps.length (ps.map .string) ∧ Below w.heap.size w wr) (fun _ _ t7 _ => s.size - (intOf t7).toNat)
  case atStart => exact ⟨0, 0, [], Nat.zero_le _, Nat.le_refl _, Nat.le_refl _, rfl, rfl, rfl, own_empty w _ _ (Nat.le_refl _), (Below.refl _ _).alloc (Nat.le_refl _) _⟩
  case round =>
    obtain ⟨k, f, ps, hk, hf, hps, rfl, rfl, HC, hrow, hbr⟩ := hrel
    obtain ⟨A, c, rfl⟩ := own_shape hrow
    by_cases hlt : k < s.size
    · by_cases hb : s[k] = b
      · have ht : (((s[k]).toNat : Int) == (b.toNat : Int)) = true := by rw [hb]; simp
        have HC2 : Hid (cuts s b (k + 1) = (k + 1, ps ++ [s.extract f k])) := by
          have h := HC.out
          show cuts s b (k + 1) = _
          rw [cuts_hit (by rw [at_byte s k hlt, hb]), h]
        have HR := Lib.hid hrow
        have HB := Lib.hid hbr
        have hsz := hbr.size
        clear hb hrow hbr
        go_wp2_with (at_builtin; refine wpList_append_own _ rfl _ _ 44 rfl w.heap.size 9 i0 (.string ⟨#[]⟩) 1 16 Tryd.underlying44 hi hz0 hz1 hz2 rfl (by decide) _ _ _ rfl (HR.out.alloc _) ⟨wr.heap.size, 0, none⟩ 1 1 [.string (s.extract f k)] rfl rfl (cell_one_new _ _ _) (fun x hx => by simp at hx; subst hx; rfl) (by unfold maxLen; omega) (by omega) (by simp; omega) ?_; intro v' w3 hown' hgrow3 _)
        have hlen : (ps ++ [s.extract f k]).length = ps.length + 1 := by simp
        have hmap : (ps ++ [s.extract f k]).map Value.string = ps.map .string ++ [.string (s.extract f k)] := by simp
        have HO : Hid (w3.ownsRow w.heap.size 9 1 v' (ps ++ [s.extract f k]).length ((ps ++ [s.extract f k]).map .string)) := by rw [hlen, hmap]; exact hown'
        have HB2 : Hid (Below w.heap.size w w3) := (HB.out.alloc hsz _).grown hgrow3 (by simp; omega) (fun j hj => own_ge HR.out hj)
        clear hown' hgrow3 hlen hmap
        go_wp2
        go_roundw
        case rel => exact ⟨k + 1, k + 1, _, by omega, Nat.le_refl _, by simp; omega, by go_num, by go_num, HC2, HO.out, HB2.out⟩
        case measure => simp [intOf]; omega
      · have ht : (((s[k]).toNat : Int) == (b.toNat : Int)) = false := by
          rw [beq_eq_false_iff_ne]
          intro e
          exact hb (UInt8.toNat_inj.1 (by omega))
        have HC2 : Hid (cuts s b (k + 1) = (f, ps)) := by
          have h := HC.out
          show cuts s b (k + 1) = _
          rw [cuts_miss (by rw [at_byte s k hlt]; intro e; cases e; exact hb rfl), h]
        have HR := Lib.hid hrow
        have HB := Lib.hid hbr
        clear hb hrow hbr
        go_wp2
        go_roundw
        case rel => exact ⟨k + 1, f, ps, by omega, by omega, by omega, by go_num, rfl, HC2, HR.out, HB.out⟩
        case measure => simp [intOf]; omega
    · have e : k = s.size := by omega
      subst e
      have HS : Hid (splitOf s b = ps ++ [s.extract f s.size]) := by
        have h := HC.out
        show splitOf s b = _
        unfold splitOf; rw [h]
      have HR := Lib.hid hrow
      have HB := Lib.hid hbr
      have hsz := hbr.size
      clear hrow hbr
      go_wp2_with (at_builtin; refine wpList_append_own _ rfl _ _ 44 rfl w.heap.size 9 i0 (.string ⟨#[]⟩) 1 16 Tryd.underlying44 hi hz0 hz1 hz2 rfl (by decide) _ _ _ rfl (HR.out.alloc _) ⟨wr.heap.size, 0, none⟩ 1 1 [.string (s.extract f s.size)] rfl rfl (cell_one_new _ _ _) (fun x hx => by simp at hx; subst hx; rfl) (by unfold maxLen; omega) (by omega) (by simp; omega) ?_; intro v' w3 hown' hgrow3 _)
      have hlen : (ps ++ [s.extract f s.size]).length = ps.length + 1 := by simp
      have hmap : (ps ++ [s.extract f s.size]).map Value.string = ps.map .string ++ [.string (s.extract f s.size)] := by simp
      have HO : Hid (w3.ownsRow w.heap.size 9 1 v' (splitOf s b).length ((splitOf s b).map .string)) := by
        show World.ownsRow _ _ _ _ _ _ _
        rw [HS.out, hlen, hmap]; exact hown'
      have HB2 : Hid (Below w.heap.size w w3) := (HB.out.alloc hsz _).grown hgrow3 (by simp; omega) (fun j hj => own_ge HR.out hj)
      clear hown' hgrow3 hlen hmap
      obtain ⟨A', c', rfl⟩ := own_shape HO.out
      go_wp2
      go_ret
      exact ⟨A', c', rfl, HO.out, HB2.out⟩
end Go.Proofs.YtofcnabpfdnohaaDoor
