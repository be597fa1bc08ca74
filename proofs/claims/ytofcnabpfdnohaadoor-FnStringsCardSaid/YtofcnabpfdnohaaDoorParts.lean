/- The contracts of impl.partsBetween, its iterator, and impl.SplitString: a new slice of the parts. -/
import Derived.RangeFuncBox
import Derived.RangeFuncNested
import Derived.RangeFuncLeaves
import Derived.Shelf.Abstract
import Derived.WalkKit
import Derived.OwnWalkIn
import Derived.TacticsInMore
import Derived.LoopNIn
import Derived.LoopIn
import Derived.Maps.AppendAt
import Derived.WalkSpells
import Derived.WalkLawsBesides
import Derived.Outline
import Derived.Test.YtofcnabpfdnohaaDoorL1Split
namespace Go.Proofs.YtofcnabpfdnohaaDoor
open Go.RowKit Go.Shelf
set_option linter.unusedVariables false

attribute [local go_sem] Oper.semAt_some

theorem grownBy_drewN (W : World) (n : Nat) (row : Option Nat) : W.grownBy (W.drewN n) row := ⟨rfl, rfl, rfl, Nat.le_refl _, fun _ _ _ => rfl⟩

/-- What a round keeps: the two boxes that the iterator reads. -/
def KpB (Bs Bb : Nat) (W W' : World) : Prop := (∀ (v : Value) (t : TypeId), Boxed W Bs t v → Boxed W' Bs t v) ∧ (∀ (v : Value) (t : TypeId), Boxed W Bb t v → Boxed W' Bb t v)
theorem KpB.trans {Bs Bb : Nat} {A B C : World} (h : KpB Bs Bb A B) (k : KpB Bs Bb B C) : KpB Bs Bb A C :=
  ⟨fun v t x => k.1 v t (h.1 v t x), fun v t x => k.2 v t (h.2 v t x)⟩
theorem KpB.put {Bs Bb n : Nat} (h1 : Bs < n) (h2 : Bb < n) (W : World) (l : Nat) (o' : Obj) (hl : n ≤ l) : KpB Bs Bb W (W.putObj l o') :=
  ⟨fun _ _ x => x.kept (grownBy_putObj' W l o') (fun e => by simp only [Option.some.injEq] at e; omega), fun _ _ x => x.kept (grownBy_putObj' W l o') (fun e => by simp only [Option.some.injEq] at e; omega)⟩

set_option maxRecDepth 100000 in
set_option maxHeartbeats 2000000 in
/-- The iterator: all the parts, in their order; or it was stopped. -/
theorem parts_in (F : Fence) (n : Nat) (h7 : F.fn 54) (hro : F.round = none) (hn : 1 ≤ n) (l Bs Bb base : Nat) (s : ByteArray) (b : UInt8) (hs : s.size ≤ 1048576) (J Jx : List ByteArray → World → Prop) (hJ : AbidesFrom base J)
    (hY : ∀ pre x W, J pre W → pre.length < s.size + 1 → YieldAt F (n - 1) Tryd.prog l #[.string x] W fun e W' =>
      (e = .returned (.bool true) ∧ J (pre ++ [x]) W' ∧ KpB Bs Bb W W') ∨ (e = .returned (.bool false) ∧ Jx (pre ++ [x]) W'))
    (W : World) (hBs : Boxed W Bs 9 (.string s)) (hBb : Boxed W Bb 5 (.int .u8 b.toNat)) (h0 : J [] W) :
    CallsIn F n Tryd.prog 54 #[.func (.yield l) #[] #[], .pointer (some ⟨Bs, 0, none⟩), .pointer (some ⟨Bb, 0, none⟩)] W fun e W' => (∃ v, e = .returned v) ∧
      ((∃ ys, ys = splitOf s b ∧ J ys W') ∨ (∃ pre : List ByteArray, True ∧ Jx pre W')) := by
  refine callsIn_of_wp Tryd.func54 rfl h7 ?_ hro
  simp only [Tryd.ntmps54, List.size_toArray, List.length_cons, List.length_nil, Nat.reduceAdd, Nat.reduceSub, Array.replicate_succ, Array.replicate_zero, List.push_toArray, List.append_toArray, List.nil_append, List.cons_append]
  have hcs := hBs.cell
  gi_wp2
  clear hcs
  gi_loopw [4, 8] (fun t4 t8 wr => ∃ (k f : Nat) (ps : List ByteArray), k ≤ s.size ∧ f ≤ k ∧ ps.length ≤ k ∧ t8 = .int .i64 k ∧ t4 = .int .i64 f ∧ Hid (cuts s b k = (f, ps)) ∧ J ps wr ∧ Hid (Boxed wr Bs 9 (.string s) ∧ Boxed wr Bb 5 (.int .u8 b.toNat))) (fun _ t8 _ => s.size - (intOf t8).toNat)
  case atStart => exact ⟨0, 0, [], Nat.zero_le _, Nat.le_refl _, Nat.le_refl _, rfl, rfl, rfl, h0, hBs, hBb⟩
  case round =>
    obtain ⟨k, f, ps, hk, hf, hps, rfl, rfl, HC, hJs, hbr⟩ := hrel
    have hc1 : wr.cell? ⟨Bs, 0, none⟩ = some (.string s) := hbr.out.1.cell
    have hc2 : wr.cell? ⟨Bb, 0, none⟩ = some (.int .u8 b.toNat) := hbr.out.2.cell
    clear hBs hBb
    by_cases hlt : k < s.size
    · have hJd : J ps wr.drew := hJ ps wr wr.drew none hJs (grownBy_drewN wr 1 none) (fun r e => by cases e)
      have hbd : Hid (Boxed wr.drew Bs 9 (.string s) ∧ Boxed wr.drew Bb 5 (.int .u8 b.toNat)) := hbr
      by_cases hb : s[k] = b
      · have ht : (((s[k]).toNat : Int) != (b.toNat : Int)) = false := by rw [hb]; simp
        have HC2 : Hid (cuts s b (k + 1) = (k + 1, ps ++ [s.extract f k])) := by
          have h := HC.out
          show cuts s b (k + 1) = _
          rw [cuts_hit (by rw [at_byte s k hlt, hb]), h]
        obtain ⟨fn, tmps, assign, body, hy, hR⟩ := hY ps (s.extract f k) wr.drew hJd (by omega)
        have HR := Lib.hid hR
        have HB := hbd
        clear hb hJd hbd hR hbr hJs
        gi_wp2
        gi_region
        all_goals gi_wp2
        all_goals refine HR.out.mono ?_
        all_goals rintro e W3 (⟨rfl, hJ3, hk3⟩ | ⟨rfl, hJx3⟩)
        all_goals gi_wp2
        all_goals first
          | (go_roundw
             case rel => exact ⟨k + 1, k + 1, _, by omega, Nat.le_refl _, by simp; omega, by go_num, by go_num, HC2, hJ3, hk3.1 _ _ HB.out.1, hk3.2 _ _ HB.out.2⟩
             case measure => simp [intOf]; omega)
          | (refine bodyPost_ret (results_none rfl _ _ _) rfl ?_
             exact ⟨⟨_, rfl⟩, .inr ⟨_, trivial, hJx3⟩⟩)
      · have ht : (((s[k]).toNat : Int) != (b.toNat : Int)) = true := by
          rw [bne_iff_ne]
          intro e
          exact hb (UInt8.toNat_inj.1 (by omega))
        have HC2 : Hid (cuts s b (k + 1) = (f, ps)) := by
          have h := HC.out
          show cuts s b (k + 1) = _
          rw [cuts_miss (by rw [at_byte s k hlt]; intro e; cases e; exact hb rfl), h]
        have HB := hbd
        have HJ := Lib.hid hJd
        clear hb hJd hbd hbr hJs
        gi_wp2
        gi_region
        all_goals gi_wp2
        all_goals go_roundw
        all_goals first
          | exact ⟨k + 1, f, ps, by omega, by omega, by omega, by go_num, rfl, HC2, HJ.out, HB⟩
          | (simp [intOf]; omega)
    · have e : k = s.size := by omega
      subst e
      have HS : Hid (splitOf s b = ps ++ [s.extract f s.size]) := by
        have h := HC.out
        show splitOf s b = _
        unfold splitOf; rw [h]
      obtain ⟨fn, tmps, assign, body, hy, hR⟩ := hY ps (s.extract f s.size) wr hJs (by omega)
      have HR := Lib.hid hR
      clear hR hbr hJs
      gi_wp2
      refine HR.out.mono ?_
      rintro e W3 (⟨rfl, hJ3, hk3⟩ | ⟨rfl, hJx3⟩)
      · gi_wp2
        go_end0
        exact ⟨⟨_, rfl⟩, .inl ⟨_, HS.out.symm, hJ3⟩⟩
      · gi_wp2
        go_end0
        exact ⟨⟨_, rfl⟩, .inr ⟨_, trivial, hJx3⟩⟩

set_option maxHeartbeats 1000000 in
/-- impl.partsBetween: both arguments are boxed; the function value captures the boxes. -/
theorem partsBetween_in (F : Fence) (n : Nat) (h5 : F.fn 44) (hro : F.round = none) (s : ByteArray) (b : UInt8) (w : World) :
    CallsIn F n Tryd.prog 44 #[.string s, .int .u8 b.toNat] w fun e w' => e = .returned (.func (.func 54) #[] #[.pointer (some ⟨w.heap.size, 0, none⟩), .pointer (some ⟨w.heap.size + 1, 0, none⟩)]) ∧
      w' = (w.alloc (.cells #[.string s] 9)).alloc (.cells #[.int .u8 b.toNat] 5) := by
  refine callsIn_of_wp Tryd.func44 rfl h5 ?_ hro
  simp only [Tryd.ntmps44, List.size_toArray, List.length_cons, List.length_nil, Nat.reduceAdd, Nat.reduceSub, Array.replicate_succ, Array.replicate_zero, List.push_toArray, List.append_toArray, List.nil_append, List.cons_append]
  gi_wp2
  go_ret
  exact ⟨rfl, rfl⟩

theorem parts_stops (F : Fence) (n : Nat) (h6 : F.fn 54) (hro : F.round = none) (hn : 1 ≤ n) (Bs Bb : Nat) (s : ByteArray) (b : UInt8) (hs : s.size ≤ 1048576) (w : World)
    (h1 : Boxed w Bs 9 (.string s)) (h2 : Boxed w Bb 5 (.int .u8 b.toNat)) :
    SeqStopsK F n Tryd.prog 54 #[.pointer (some ⟨Bs, 0, none⟩), .pointer (some ⟨Bb, 0, none⟩)] (fun x : ByteArray => #[Value.string x]) (KpB Bs Bb) (fun ys => ys = splitOf s b) (fun _ => True) (s.size + 1) w :=
  fun l J Jx W hW hJ _ hY h0 => parts_in F n h6 hro hn l Bs Bb W.heap.size s b hs J Jx hJ hY W ((hW.block _ h1.lt).trans h1) ((hW.block _ h2.lt).trans h2) h0
end Go.Proofs.YtofcnabpfdnohaaDoor
