/- slices.Backward as an iterator over rows of rows; it stops when it is told to. -/
import Derived.RangeFuncBox
import Derived.RangeFuncLeaves
import Derived.Shelf.Abstract
import Derived.WalkKit
import Derived.OwnWalkIn
import Derived.TacticsInMore
import Derived.LoopNIn
import Derived.LoopIn
import Derived.Test.YtamhhicnfpemeaaProg
import Derived.Test.YtamhhicnfpemeaaAbRangeS
import Derived.Test.YtamhhicnfpemeaaAbObj
namespace Go.Proofs.Ytamhhicnfpemeaa.Ab
open Go Go.RowKit Go.Shelf Go.Proofs
attribute [local go_sem] Oper.semAt_some
set_option maxRecDepth 100000 in
set_option maxHeartbeats 2000000 in
theorem backT_pos (l Bs bo len : Nat) (hpos : 0 < len) (hreach : len * 24 ≤ 140737488355328) (J : Nat → World → Prop) (S : World → Prop)
    (hc : ∀ k W, J k W → ∃ b off cap, W.cell? ⟨Bs, bo, none⟩ = some (.slice (some ⟨b, off, none⟩) len cap) ∧ ∀ j, j < len → ∃ a n c, W.cell? ⟨b, off + j, none⟩ = some (.slice a n c))
    (hY : ∀ k W, k < len → J k W → ∀ b off cap y, W.cell? ⟨Bs, bo, none⟩ = some (.slice (some ⟨b, off, none⟩) len cap) → W.cell? ⟨b, off + (len - 1 - k), none⟩ = some y →
      ∃ (fn : FuncId) (T : Array Value) (X Y : Code), (Instr.yield l #[.int .i64 ((len : Int) - 1 - k), y]).run Try.prog W = .ok (.round l fn T X Y) W ∧
      RoundIn Fence.wide 0 Try.prog l fn T X Y W fun e W' => (e = .returned (.bool true) ∧ J (k + 1) W') ∨ (e = .returned (.bool false) ∧ S W'))
    (W : World) (h0 : J 0 W) :
    CallsIn Fence.wide 0 Try.prog 130 #[.func (.yield l) #[] #[], .pointer (some ⟨Bs, bo, none⟩)] W fun e W' => (∃ v, e = .returned v) ∧ (J len W' ∨ S W') := by
  refine callsIn_of_wp Try.func130 rfl trivial ?_ rfl
  simp only [Try.ntmps130, List.size_toArray, List.length_cons, List.length_nil, Nat.reduceAdd, Nat.reduceSub, Array.replicate_succ, Array.replicate_zero, List.push_toArray, List.append_toArray, List.nil_append, List.cons_append]
  obtain ⟨_, _, _, hB, _⟩ := hc 0 W h0
  gi_wp2
  gi_loopw [3] (fun i wr => ∃ k : Nat, k ≤ len ∧ i = .int .i64 ((len : Int) - 1 - k) ∧ J k wr) (fun i _ => (intOf i + 1).toNat)
  case atStart => exact ⟨0, Nat.zero_le _, by simp, h0⟩
  case round =>
    obtain ⟨k, hk, rfl, hJs⟩ := hrel
    obtain ⟨b, off, cap, hbx, hcs⟩ := hc k wr hJs
    by_cases hlt : k < len
    · obtain ⟨a, n, c, hcx⟩ := hcs (len - 1 - k) (by omega)
      obtain ⟨fn, tmps, assign, body, hy, hR⟩ := hY k wr hlt hJs b off cap _ hbx hcx
      gi_wp2
      refine ⟨rfl, hR.mono ?_⟩
      rintro e W3 (⟨rfl, hJ3⟩ | ⟨rfl, hS3⟩)
      · gi_wp2
        go_roundw
        case rel => exact ⟨k + 1, by omega, by simp; omega, hJ3⟩
        case measure => simp [intOf]; omega
      · gi_wp2
        refine bodyPost_ret (results_none rfl _ _ _) rfl ?_
        exact ⟨⟨_, rfl⟩, .inr hS3⟩
    · obtain rfl : k = len := by omega
      gi_wp2
      go_end0
      exact ⟨⟨_, rfl⟩, .inl hJs⟩
set_option maxRecDepth 100000 in
set_option maxHeartbeats 2000000 in
theorem backT_nil (l Bs bo cap : Nat) (A : Option Addr) (J : Nat → World → Prop) (S : World → Prop) (W : World) (hc : W.cell? ⟨Bs, bo, none⟩ = some (.slice A 0 cap)) (h0 : J 0 W) :
    CallsIn Fence.wide 0 Try.prog 130 #[.func (.yield l) #[] #[], .pointer (some ⟨Bs, bo, none⟩)] W fun e W' => (∃ v, e = .returned v) ∧ (J 0 W' ∨ S W') := by
  refine callsIn_of_wp Try.func130 rfl trivial ?_ rfl
  simp only [Try.ntmps130, List.size_toArray, List.length_cons, List.length_nil, Nat.reduceAdd, Nat.reduceSub, Array.replicate_succ, Array.replicate_zero, List.push_toArray, List.append_toArray, List.nil_append, List.cons_append]
  gi_wp2
  gi_loopw [3] (fun i wr => i = .int .i64 (-1) ∧ J 0 wr) (fun _ _ => 0)
  case atStart => exact ⟨by simp, h0⟩
  case round =>
    obtain ⟨rfl, hJs⟩ := hrel
    gi_wp2
    go_end0
    exact ⟨⟨_, rfl⟩, .inl hJs⟩
/-- Rows of rows are handed over from their end: us j is the row j. -/
theorem iter_rows {bi ri off fl len : Nat} {us : Nat → Value} {J : Nat → Mem → Prop} (hr : len * 24 ≤ 140737488355328) (hu : ∀ j, j < len → ∃ a n c, us j = .slice a n c)
    (hJ : ∀ k m, J k m → rdc m bi 0 = some (.slice (some ⟨ri, off, none⟩) len fl) ∧ ∀ j, j < len → rdc m ri (off + j) = some (us j)) :
    IterS Try.prog 130 [.pointer (some ⟨bi, 0, none⟩)] len (fun k => [.int .i64 ((len : Int) - 1 - k), us (len - 1 - k)]) J := by
  refine ⟨⟨_, Try.func130, rfl, rfl⟩, fun base ρ lb hvl l J' S' hcalm hcalmS hback hY W h0 => ?_⟩
  have hlen : lb.length = 1 := hvl.1.symm
  obtain ⟨y, rfl⟩ : ∃ y, lb = [y] := by
    match lb, hlen with
    | [y], _ => exact ⟨y, rfl⟩
  have hy := hvl.2 0 _ y rfl rfl
  cases hy with
  | @ptr _ _ b o tot hp =>
    have key : ∀ k W, J' k W → ∃ A c, W.cell? ⟨b, o + 0, none⟩ = some (.slice A len c) ∧ (0 < len → ∃ b2 o2, A = some ⟨b2, o2, none⟩ ∧ ∀ j, j < len → ∃ a n c, W.cell? ⟨b2, o2 + j, none⟩ = some (.slice a n c)) := by
      intro k W hk
      obtain ⟨W0, ρ', m', hj, hpre, hm⟩ := hback k W hk
      obtain ⟨h1, h2⟩ := hJ k m' hj
      obtain ⟨y, hy, hv⟩ := hm.load h1 (pre_at hpre hp)
      cases hv with
      | @sl _ _ _ _ b2 o2 t2 c A hp2 hc1 hc2 hc3 hc4 =>
        refine ⟨A, c, hy, fun hpos => ?_⟩
        have hcell : ∀ j, j < len → ∃ a n c, W.cell? ⟨b2, o2 + (off + j), none⟩ = some (.slice a n c) := fun j hj => by
          obtain ⟨z, hz, hvz⟩ := hm.load (h2 j hj) hp2
          obtain ⟨a, n, c, hus⟩ := hu j hj
          rw [hus] at hvz
          cases hvz <;> exact ⟨_, _, _, hz⟩
        have hA : A = some ⟨b2, o2 + off, none⟩ := by
          by_cases hf : fl = 0
          · exact hc3 hf hpos
          · obtain ⟨h5, h6⟩ := hc4 (by omega)
            refine h6 ?_
            have : 0 < c * fl := Nat.mul_pos (by omega) (by omega)
            omega
        exact ⟨b2, o2 + off, hA, fun j hj => by rw [Nat.add_assoc]; exact hcell j hj⟩
    rcases Nat.eq_zero_or_pos len with hz | hpos
    · subst hz
      obtain ⟨A, c, h1, _⟩ := key 0 W h0
      exact backT_nil l b (o + 0) c A J' S' W h1 h0
    · refine backT_pos l b (o + 0) len hpos hr J' S' (fun k W hk => ?_) (fun k W hk hj b1 off1 cap1 y1 hb1 hy1 => ?_) W h0
      · obtain ⟨A, c, h1, h2⟩ := key k W hk
        obtain ⟨b2, o2, rfl, h3⟩ := h2 hpos
        exact ⟨b2, o2, c, h1, h3⟩
      · refine hY k W hk hj [.int .i64 ((len : Int) - 1 - k), y1] fun W0 ρ' m' hjm hpre hm => ?_
        obtain ⟨h1, h2⟩ := hJ k m' hjm
        obtain ⟨y, hy, hv⟩ := hm.load h1 (pre_at hpre hp)
        rw [hb1] at hy
        cases hy
        cases hv with
        | @sl _ _ _ _ b2 o2 t2 c A hp2 hc1 hc2 hc3 hc4 =>
          have hA : (some ⟨b1, off1, none⟩ : Option Addr) = some ⟨b2, o2 + off, none⟩ := by
            by_cases hf : fl = 0
            · exact hc3 hf hpos
            · obtain ⟨h5, h6⟩ := hc4 (by omega)
              refine h6 ?_
              have : 0 < cap1 * fl := Nat.mul_pos (by omega) (by omega)
              omega
          cases hA
          obtain ⟨z, hz, hvz⟩ := hm.load (h2 (len - 1 - k) (by omega)) hp2
          rw [← Nat.add_assoc] at hz
          rw [hy1] at hz
          cases hz
          exact ⟨rfl, fun i x y hx hy => by
            match i with
            | 0 => simp at hx hy; subst hx; subst hy; exact .int _ _
            | 1 => simp at hx hy; subst hx; subst hy; exact hvz
            | i + 2 => simp at hx⟩
end Go.Proofs.Ytamhhicnfpemeaa.Ab
