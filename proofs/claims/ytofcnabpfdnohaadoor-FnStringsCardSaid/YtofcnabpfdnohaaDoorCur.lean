/- The cursor from which the laws draw: what next, pick, one and of may return. -/
import Derived.Test.YtofcnabpfdnohaaDoorProg
import Derived.Test.YtofcnabpfdnohaaDoorMem
import Derived.WalkSpells
import Derived.WalkLawsBesides
import Derived.RegionTactic
import Derived.ChangeAlike
import Derived.Deep.QuietTactic
import Derived.BigQuiet
import Derived.Deep.RegionWith
import Derived.Laws.Bits64
import Derived.Laws.BitsAllLaws
import Derived.RangeFuncBox
import Derived.Outline
import Derived.IntWalk
namespace Go.Proofs.YtofcnabpfdnohaaDoor
open Go.RowKit
set_option linter.unusedVariables false

/-- Block B is a cursor; at most m choices have been read. -/
def CurIs (w : World) (B m n0 : Nat) : Prop :=
  ∃ (A : Option Addr) (c at_ : Nat) (seed : Int) (xs : List Int), w.heap[B]? = some (.cells #[.slice A xs.length c, .int .i64 at_, .int .u64 seed] 37 (0, 0)) ∧ at_ ≤ m ∧ xs.length ≤ 70000 ∧
    Rd w n0 A (xs.map (Value.int .u8)) ∧ (∀ x ∈ xs, 0 ≤ x ∧ x ≤ 255) ∧ n0 ≤ B

theorem and255 (x : Int) : 0 ≤ bits .and .u64 x 255 ∧ bits .and .u64 x 255 ≤ 255 := by
  have h : bits .and .u64 x 255 = (((BitVec.ofInt 64 x).toNat &&& 255 : Nat) : Int) := by
    have hx : (BitVec.ofInt 64 x).toNat &&& 255 ≤ 255 := Nat.and_le_right
    show IntKind.u64.wrap ((BitVec.ofInt 64 x &&& BitVec.ofInt 64 255).toNat : Int) = _
    rw [BitVec.toNat_and, IntKind.wrap_u64, show (BitVec.ofInt 64 255).toNat = 255 from rfl]
    omega
  have h2 : (BitVec.ofInt 64 x).toNat &&& 255 ≤ 255 := Nat.and_le_right
  omega

theorem wrap255 (x : Int) : 0 ≤ wrap64 (bits .and .u64 x 255) ∧ wrap64 (bits .and .u64 x 255) ≤ 255 := by
  have h := and255 x
  rw [IntWalk.wrap64_in _ ⟨by omega, by omega⟩]
  exact h
theorem grownBy_tr {a b c : World} {row : Option Nat} (h : a.grownBy b row) (k : b.grownBy c row) : a.grownBy c row :=
  ⟨k.os.trans h.os, k.tape.trans h.tape, k.output.trans h.output, Nat.le_trans h.size k.size, fun j hj hne => (k.block j (Nat.lt_of_lt_of_le hj h.size) hne).trans (h.block j hj hne)⟩
theorem CurIs.mono {w : World} {B m m' n0 : Nat} (h : CurIs w B m n0) (hm : m ≤ m') : CurIs w B m' n0 := by
  obtain ⟨A, c, at_, seed, xs, h1, h2, h3⟩ := h
  exact ⟨A, c, at_, seed, xs, h1, by omega, h3⟩
theorem CurIs.kept {w w' : World} {B m n0 : Nat} {row : Option Nat} (h : CurIs w B m n0) (hg : w.grownBy w' row) (hB : row ≠ some B) (hr : ∀ g, row = some g → n0 ≤ g) : CurIs w' B m n0 := by
  obtain ⟨A, c, at_, seed, xs, h1, h2, h3, h4, h5, h6⟩ := h
  have hlt : B < w.heap.size := (Array.getElem?_eq_some_iff.1 h1).1
  refine ⟨A, c, at_, seed, xs, (hg.block B hlt (fun e => hB e.symm)).trans h1, h2, h3, h4.keep fun p hp => World.cell?_of_block (hg.block p.block (by omega) (fun e => by have := hr _ e.symm; omega)), h5, h6⟩
theorem cur_step {w : World} {B m n0 c at_ : Nat} {seed : Int} {A : Option Addr} {xs : List Int} {n : Nat} (hn : xs.length = n) (hB : w.heap[B]? = some (.cells #[.slice A n c, .int .i64 at_, .int .u64 seed] 37 (0, 0))) (hat : at_ ≤ m) (hxl : n ≤ 70000)
    (hR : Rd w n0 A (xs.map (Value.int .u8))) (hxs : ∀ x ∈ xs, 0 ≤ x ∧ x ≤ 255) (hnB : n0 ≤ B) (a b : Nat) (seed' : Int) :
    CurIs ((((w.drewN a).setCell ⟨B, 1, none⟩ (.int .i64 ((at_ : Int) + 1))).setCell ⟨B, 2, none⟩ (.int .u64 seed')).drewN b) B (m + 1) n0 ∧
      w.grownBy ((((w.drewN a).setCell ⟨B, 1, none⟩ (.int .i64 ((at_ : Int) + 1))).setCell ⟨B, 2, none⟩ (.int .u64 seed')).drewN b) (some B) := by
  subst hn
  have h1 := heap_setCell_same (w.drewN a) B 1 _ 37 (.int .i64 ((at_ : Int) + 1)) hB
  have h2 := heap_setCell_same _ B 2 _ 37 (.int .u64 seed') h1
  have hg : w.grownBy ((((w.drewN a).setCell ⟨B, 1, none⟩ (.int .i64 ((at_ : Int) + 1))).setCell ⟨B, 2, none⟩ (.int .u64 seed')).drewN b) (some B) :=
    ⟨rfl, rfl, rfl, by simp [World.setCell], fun k hk hne => by
      show (((w.drewN a).setCell ⟨B, 1, none⟩ _).setCell ⟨B, 2, none⟩ _).heap[k]? = _
      have hkB : k ≠ B := fun e => hne (by rw [e])
      rw [Below.heap_setCell _ _ _ _ hkB, Below.heap_setCell _ _ _ _ hkB]; rfl⟩
  refine ⟨⟨A, c, at_ + 1, seed', xs, ?_, by omega, hxl, ?_, hxs, hnB⟩, hg⟩
  · have e : (((at_ + 1 : Nat) : Int)) = (at_ : Int) + 1 := by omega
    rw [e]
    exact h2
  · refine hR.keep fun p hp => ?_
    have hpB : p.block ≠ B := by omega
    rw [World.cell?_drewN]
    exact World.cell?_of_block (by rw [Below.heap_setCell _ _ _ _ hpB, Below.heap_setCell _ _ _ _ hpB]; rfl)

def NextPost (w : World) (B m n0 : Nat) (e : Ending) (w' : World) : Prop :=
  ∃ r : Int, e = .returned (.int .i64 r) ∧ 0 ≤ r ∧ r ≤ 255 ∧ CurIs w' B (m + 1) n0 ∧ w.grownBy w' (some B)

theorem next_end {w w' : World} {B m n0 : Nat} {r : Int} (hr : 0 ≤ r ∧ r ≤ 255) (h : CurIs w' B (m + 1) n0 ∧ w.grownBy w' (some B)) : NextPost w B m n0 (.returned (.int .i64 r)) w' :=
  ⟨r, rfl, hr.1, hr.2, h.1, h.2⟩

set_option maxRecDepth 100000 in
set_option maxHeartbeats 2000000 in
theorem next_any (w : World) (B m n0 : Nat) (h : CurIs w B m n0) (hm : m ≤ 1000000000) :
    Calls Tryd.prog 37 #[.pointer (some ⟨B, 0, none⟩)] w (NextPost w B m n0) := by
  obtain ⟨A, c, at_, seed, xs, hB, hat, hxl, hR, hxs, hn⟩ := h
  have hc0 : w.cell? ⟨B, 0, none⟩ = some (.slice A xs.length c) := by rw [cell_of_row w B 0 _ _ (0, 0) hB]; rfl
  have hc1 : w.cell? ⟨B, 1, none⟩ = some (.int .i64 at_) := by rw [cell_of_row w B 1 _ _ (0, 0) hB]; rfl
  have hc2 : w.cell? ⟨B, 2, none⟩ = some (.int .u64 seed) := by rw [cell_of_row w B 2 _ _ (0, 0) hB]; rfl
  have hf1 : w.frozen? ⟨B, 1, none⟩ = false := frozen_of_row w B 1 _ _ hB
  have hf2 : w.frozen? ⟨B, 2, none⟩ = false := frozen_of_row w B 2 _ _ hB
  by_cases hlt : at_ < xs.length
  · have htl : decide ((at_ : Int) < (xs.length : Int)) = true := by simp; omega
    have hlt2 : (at_ : Int) < (xs.length : Int) := by omega
    have hge2 : 0 ≤ (at_ : Int) := by omega
    obtain ⟨x, hx⟩ := at_lt xs hlt
    obtain ⟨b, off, rfl, hbb, hcx⟩ := hR.at_ (map_at (f := Value.int .u8) hx)
    obtain ⟨hx0, hx1⟩ := hxs x (List.mem_of_getElem? hx)
    have HB := Lib.hid hB
    have HR := Lib.hid hR
    have HX := Lib.hid hxs
    obtain ⟨n, hnn⟩ : ∃ n, xs.length = n := ⟨_, rfl⟩
    rw [hnn] at HB hxl hlt htl hlt2 hc0
    have HL := Lib.hid hnn
    clear hB hR hxs hx hnn
    go_enter Tryd.func37, Tryd.ntmps37
    go_wp2
    go_quiet (fail)
    go_wp2
    go_quiet (fail)
    go_wp2
    go_quiet (fail)
    go_wp2
    go_ret
    exact next_end ⟨hx0, hx1⟩ (cur_step (n := n) HL.out HB.out hat hxl HR.out HX.out hn _ _ _)
  · have htl : decide ((at_ : Int) < (xs.length : Int)) = false := by simp; omega
    have hle : decide ((at_ : Int) + 1 ≤ (xs.length : Int)) = false := by simp; omega
    have HB := Lib.hid hB
    have HR := Lib.hid hR
    have HX := Lib.hid hxs
    obtain ⟨n, hnn⟩ : ∃ n, xs.length = n := ⟨_, rfl⟩
    rw [hnn] at HB hxl hlt htl hle hc0
    have HL := Lib.hid hnn
    clear hB hR hxs hnn
    go_enter Tryd.func37, Tryd.ntmps37
    go_wp2
    go_quiet (fail)
    go_wp2
    go_quiet (fail)
    go_wp2
    go_ret
    refine next_end ?_ (cur_step (n := n) HL.out HB.out hat hxl HR.out HX.out hn _ _ _)
    exact wrap255 _

/-- A choice below hi; at most k choices more have been read. -/
def PickPost (w : World) (B m n0 : Nat) (hi : Int) (k : Nat) (e : Ending) (w' : World) : Prop :=
  ∃ r : Int, e = .returned (.int .i64 r) ∧ 0 ≤ r ∧ r < hi ∧ CurIs w' B (m + k) n0 ∧ w.grownBy w' (some B)
theorem pick_end {w w' : World} {B m n0 k : Nat} {hi r : Int} (hr : 0 ≤ r ∧ r < hi) (h : CurIs w' B (m + k) n0) (hg : w.grownBy w' (some B)) : PickPost w B m n0 hi k (.returned (.int .i64 r)) w' :=
  ⟨r, rfl, hr.1, hr.2, h, hg⟩

set_option maxHeartbeats 1000000 in
theorem pick_one (n : Int) (w : World) (B m n0 : Nat) (h : CurIs w B m n0) (hn : n ≤ 1) :
    Calls Tryd.prog 22 #[.pointer (some ⟨B, 0, none⟩), .int .i64 n] w (PickPost w B m n0 1 2) := by
  go_enter Tryd.func22, Tryd.ntmps22
  go_wp2
  go_ret
  exact pick_end ⟨by omega, by omega⟩ (h.mono (by omega)) (World.grownBy.refl w _)

set_option maxHeartbeats 1000000 in
theorem pick_any (n : Int) (w : World) (B m n0 : Nat) (h : CurIs w B m n0) (hm : m ≤ 900000000) (hn1 : 1 < n) (hn2 : n ≤ 1000000) :
    Calls Tryd.prog 22 #[.pointer (some ⟨B, 0, none⟩), .int .i64 n] w (PickPost w B m n0 n 2) := by
  have HN := Lib.hid (next_any w B m n0 h (by omega))
  clear h
  by_cases hbig : 200 < n
  · go_enter Tryd.func22, Tryd.ntmps22
    go_wp2_with fail
    refine HN.out.mono ?_
    rintro e w1 ⟨x, rfl, hx0, hx1, hc1, hg1⟩
    go_wp2_with fail
    refine (next_any w1 B (m + 1) n0 hc1 (by omega)).mono ?_
    rintro e w2 ⟨y, rfl, hy0, hy1, hc2, hg2⟩
    go_wp2
    go_ret
    refine pick_end ⟨Int.emod_nonneg _ (by omega), Int.emod_lt_of_pos _ (by omega)⟩ hc2 (grownBy_tr hg1 hg2)
  · go_enter Tryd.func22, Tryd.ntmps22
    go_wp2_with fail
    refine HN.out.mono ?_
    rintro e w1 ⟨x, rfl, hx0, hx1, hc1, hg1⟩
    go_wp2
    go_ret
    refine pick_end ⟨Int.emod_nonneg _ (by omega), Int.emod_lt_of_pos _ (by omega)⟩ (hc1.mono (by omega)) hg1
end Go.Proofs.YtofcnabpfdnohaaDoor
