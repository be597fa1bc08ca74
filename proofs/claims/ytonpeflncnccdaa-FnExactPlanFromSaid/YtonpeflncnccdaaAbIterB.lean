/- slices.Backward as an iterator over a row of ints. -/
import Derived.RangeFuncBox
import Derived.RangeFuncLeaves
import Derived.Shelf.Abstract
import Derived.WalkKit
import Derived.OwnWalkIn
import Derived.TacticsInMore
import Derived.LoopNIn
import Derived.LoopIn
import Derived.Test.YtonpeflncnccdaaProg
import Derived.Test.YtonpeflncnccdaaAbRun
namespace Go.Proofs.Ytonpeflncnccdaa.Ab
open Go Go.RowKit Go.Shelf Go.Proofs
attribute [local go_sem] Oper.semAt_some
set_option maxRecDepth 100000 in
set_option maxHeartbeats 2000000 in
theorem backward_pos (l Bs bo len : Nat) (zs : List Int) (hpos : 0 < len) (hreach : len * 8 ≤ 140737488355328) (J : Nat → World → Prop)
    (hc : ∀ k W, J k W → ∃ b off cap, W.cell? ⟨Bs, bo, none⟩ = some (.slice (some ⟨b, off, none⟩) len cap) ∧ ∀ j, j < len → W.cell? ⟨b, off + j, none⟩ = some (.int .i64 (zs[j]?.getD 0)))
    (hY : ∀ k W, k < len → J k W → ∃ (fn : FuncId) (T : Array Value) (X Y : Code), (Instr.yield l #[.int .i64 ((len : Int) - 1 - k), .int .i64 (zs[len - 1 - k]?.getD 0)]).run Try.prog W = .ok (.round l fn T X Y) W ∧
      RoundIn Fence.wide 0 Try.prog l fn T X Y W fun e W' => e = .returned (.bool true) ∧ J (k + 1) W')
    (W : World) (h0 : J 0 W) :
    CallsIn Fence.wide 0 Try.prog 67 #[.func (.yield l) #[] #[], .pointer (some ⟨Bs, bo, none⟩)] W fun e W' => (∃ v, e = .returned v) ∧ J len W' := by
  refine callsIn_of_wp Try.func67 rfl trivial ?_ rfl
  simp only [Try.ntmps67, List.size_toArray, List.length_cons, List.length_nil, Nat.reduceAdd, Nat.reduceSub, Array.replicate_succ, Array.replicate_zero, List.push_toArray, List.append_toArray, List.nil_append, List.cons_append]
  obtain ⟨_, _, _, hB, _⟩ := hc 0 W h0
  gi_wp2
  gi_loopw [3] (fun i wr => ∃ k : Nat, k ≤ len ∧ i = .int .i64 ((len : Int) - 1 - k) ∧ J k wr) (fun i _ => (intOf i + 1).toNat)
  case atStart => exact ⟨0, Nat.zero_le _, by simp, h0⟩
  case round =>
    obtain ⟨k, hk, rfl, hJs⟩ := hrel
    obtain ⟨b, off, cap, hbx, hcs⟩ := hc k wr hJs
    by_cases hlt : k < len
    · obtain ⟨fn, tmps, assign, body, hy, hR⟩ := hY k wr hlt hJs
      have hcx := hcs (len - 1 - k) (by omega)
      gi_wp2
      refine ⟨rfl, hR.mono ?_⟩
      rintro e W3 ⟨rfl, hJ3⟩
      gi_wp2
      go_roundw
      case rel => exact ⟨k + 1, by omega, by simp; omega, hJ3⟩
      case measure => simp [intOf]; omega
    · obtain rfl : k = len := by omega
      gi_wp2
      go_end0
      exact ⟨⟨_, rfl⟩, hJs⟩
set_option maxRecDepth 100000 in
set_option maxHeartbeats 2000000 in
theorem backward_nil (l Bs bo cap : Nat) (A : Option Addr) (J : Nat → World → Prop) (W : World) (hc : W.cell? ⟨Bs, bo, none⟩ = some (.slice A 0 cap)) (h0 : J 0 W) :
    CallsIn Fence.wide 0 Try.prog 67 #[.func (.yield l) #[] #[], .pointer (some ⟨Bs, bo, none⟩)] W fun e W' => (∃ v, e = .returned v) ∧ J 0 W' := by
  refine callsIn_of_wp Try.func67 rfl trivial ?_ rfl
  simp only [Try.ntmps67, List.size_toArray, List.length_cons, List.length_nil, Nat.reduceAdd, Nat.reduceSub, Array.replicate_succ, Array.replicate_zero, List.push_toArray, List.append_toArray, List.nil_append, List.cons_append]
  gi_wp2
  gi_loopw [3] (fun i wr => i = .int .i64 (-1) ∧ J 0 wr) (fun _ _ => 0)
  case atStart => exact ⟨by simp, h0⟩
  case round =>
    obtain ⟨rfl, hJs⟩ := hrel
    gi_wp2
    go_end0
    exact ⟨⟨_, rfl⟩, hJs⟩
theorem iter_backward {bi ri off fl len : Nat} {zs : List Int} {J : Nat → Mem → Prop} (hr : len * 8 ≤ 140737488355328)
    (hJ : ∀ k m, J k m → rdc m bi 0 = some (.slice (some ⟨ri, off, none⟩) len fl) ∧ ∀ j, j < len → rdc m ri (off + j) = some (.int .i64 (zs[j]?.getD 0))) :
    Iter Try.prog 67 [.pointer (some ⟨bi, 0, none⟩)] len (fun k => [.int .i64 ((len : Int) - 1 - k), .int .i64 (zs[len - 1 - k]?.getD 0)]) J := by
  refine ⟨⟨_, Try.func67, rfl, rfl⟩, fun base ρ lb hvl l J' hcalm hback hY W h0 => ?_⟩
  have hlen : lb.length = 1 := hvl.1.symm
  obtain ⟨y, rfl⟩ : ∃ y, lb = [y] := by
    match lb, hlen with
    | [y], _ => exact ⟨y, rfl⟩
  have hy := hvl.2 0 _ y rfl rfl
  cases hy with
  | @ptr _ _ b o tot hp =>
    have key : ∀ k W, J' k W → ∃ A c, W.cell? ⟨b, o + 0, none⟩ = some (.slice A len c) ∧ (0 < len → ∃ b2 o2, A = some ⟨b2, o2, none⟩ ∧ ∀ j, j < len → W.cell? ⟨b2, o2 + j, none⟩ = some (.int .i64 (zs[j]?.getD 0))) := by
      intro k W hk
      obtain ⟨W0, ρ', m', hj, hpre, hm⟩ := hback k W hk
      obtain ⟨h1, h2⟩ := hJ k m' hj
      obtain ⟨y, hy, hv⟩ := hm.load h1 (pre_at hpre hp)
      cases hv with
      | @sl _ _ _ _ b2 o2 t2 c A hp2 hc1 hc2 hc3 hc4 =>
        refine ⟨A, c, hy, fun hpos => ?_⟩
        have hcell : ∀ j, j < len → W.cell? ⟨b2, o2 + (off + j), none⟩ = some (.int .i64 (zs[j]?.getD 0)) := fun j hj => by
          obtain ⟨z, hz, hvz⟩ := hm.load (h2 j hj) hp2
          cases hvz
          exact hz
        have hA : A = some ⟨b2, o2 + off, none⟩ := by
          by_cases hf : fl = 0
          · exact hc3 hf hpos
          · obtain ⟨h5, h6⟩ := hc4 (by omega)
            refine h6 ?_
            have : 0 < c * fl := Nat.mul_pos (by omega) (by omega)
            omega
        exact ⟨b2, o2 + off, hA, fun j hj => by rw [Nat.add_assoc]; exact hcell j hj⟩
    rcases Nat.eq_zero_or_pos len with hz | hpos
    · subst hz
      obtain ⟨A, c, h1, _⟩ := key 0 W h0
      exact backward_nil l b (o + 0) c A J' W h1 h0
    · refine backward_pos l b (o + 0) len zs hpos hr J' (fun k W hk => ?_) (fun k W hk hj => ?_) W h0
      · obtain ⟨A, c, h1, h2⟩ := key k W hk
        obtain ⟨b2, o2, rfl, h3⟩ := h2 hpos
        exact ⟨b2, o2, c, h1, h3⟩
      · exact hY k W hk hj [.int .i64 ((len : Int) - 1 - k), .int .i64 (zs[len - 1 - k]?.getD 0)] ⟨rfl, fun i x y hx hy => by
          rw [hx] at hy
          cases hy
          match i with
          | 0 => simp at hx; subst hx; exact .int _ _
          | 1 => simp at hx; subst hx; exact .int _ _
          | i + 2 => simp at hx⟩
end Go.Proofs.Ytonpeflncnccdaa.Ab
