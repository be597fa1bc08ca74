/- The contracts of the laws' helpers that mark a slice of strings and look whether the marks are held. -/
import Derived.Test.YtofcnabpfdnohaaStrs
import Derived.Test.YtofcnabpfdnohaaSplitMath
import Derived.Laws.Concat
import Derived.Deep.RegionWith
import Derived.Laws.BytesArg
namespace Go.Proofs.Ytofcnabpfdnohaa
open Go.RowKit
set_option linter.unusedVariables false

/-- A digit's byte. -/
def dgt (d : Nat) : UInt8 := UInt8.ofNat (48 + d)
/-- The digits of k ahead of what there is. -/
def mkDig : Nat → Nat → List UInt8 → List UInt8
  | 0, _, out => out
  | f + 1, k, out => if k = 0 then out else mkDig f (k / 10) (dgt (k % 10) :: out)
def mkB (k : Nat) : ByteArray := ⟨(109 :: mkDig k k []).toArray⟩
theorem mkDig_zero (f : Nat) (out : List UInt8) : mkDig f 0 out = out := by cases f <;> rfl
theorem mkDig_step {f k : Nat} {out : List UInt8} (h : 0 < k) : mkDig (f + 1) k out = mkDig f (k / 10) (dgt (k % 10) :: out) := by
  rw [mkDig, if_neg (by omega)]

set_option maxHeartbeats 1000000 in
theorem markText_any (k : Nat) (w : World) (h0 : 1 ≤ k) (h1 : k ≤ 1000000) :
    Calls Try.prog 34 #[.int .i64 k] w fun e w' => e = .returned (.string (mkB k)) ∧ Below w.heap.size w w' := by
  go_enter Try.func34, Try.ntmps34
  go_wp2
  go_loopw [0, 3] (fun t0 t3 wr => ∃ (f j : Nat) (o : ByteArray), t0 = .int .i64 j ∧ t3 = .string o ∧ j ≤ f ∧ f ≤ k ∧ j ≤ k ∧ o.size + j ≤ k ∧ Hid (mkDig f j o.data.toList = mkDig k k []) ∧ Below w.heap.size w wr) (fun t0 _ _ => (intOf t0).toNat)
  case atStart => exact ⟨k, k, _, rfl, rfl, Nat.le_refl _, Nat.le_refl _, Nat.le_refl _, by show 0 + k ≤ k; omega, rfl, Below.refl _ _⟩
  case round =>
    obtain ⟨f, j, o, rfl, rfl, hjf, hfk, hjk, ho, HD, hb⟩ := hrel
    by_cases hj : 0 < j
    · have hb1 := hb.size
      have hcv : (convert 22 9 (.slice (some ⟨wr.heap.size, 0, none⟩) 1 1)).run Try.prog (wr.alloc (.cells #[.int .u8 (48 + (j : Int) % 10)] 5)) = .ok (.string ⟨#[dgt (j % 10)]⟩) (wr.alloc (.cells #[.int .u8 (48 + (j : Int) % 10)] 5)) := by
        have h := run_convert_bytes_arg (P := Try.prog) (wr.alloc (.cells #[.int .u8 (48 + (j : Int) % 10)] 5)) 22 5 Try.underlying22 Try.underlying5 wr.heap.size 0 1 1 [48 + (j : Int) % 10] rfl (fun i hi => by
          obtain rfl : i = 0 := by omega
          rw [Nat.zero_add, cell_of_row _ _ 0 _ _ (0, 0) (heap_alloc_new wr _)]; rfl) 9 Try.underlying9
        rw [h]
        congr 2
      have HD2 : Hid (mkDig (f - 1) (j / 10) ((⟨#[dgt (j % 10)]⟩ : ByteArray) ++ o).data.toList = mkDig k k []) := by
        show _ = _
        rw [← HD.out, show f = (f - 1) + 1 from by omega, mkDig_step hj, data_append]
        rfl
      have HB : Hid (Below w.heap.size w (wr.alloc (.cells #[.int .u8 (48 + (j : Int) % 10)] 5))) := hb.alloc hb1 _
      have hq : j / 10 < j := by omega
      clear hb hb1
      go_wp2
      go_roundw
      case rel => exact ⟨f - 1, j / 10, _, by congr 1, rfl, by omega, by omega, by omega, by rw [ByteArray.size_append]; show 1 + o.size + j / 10 ≤ k; omega, HD2, HB.out⟩
      case measure => simp [intOf]; omega
    · obtain rfl : j = 0 := by omega
      have HF : Hid ((⟨#[109]⟩ : ByteArray) ++ o = mkB k) := by
        have h := HD.out
        rw [mkDig_zero] at h
        show _ = _
        unfold mkB
        rw [← h, ← mk_list o, mk_app [109] _]
        simp
      have HB := Lib.hid hb
      clear hb
      go_wp2
      go_ret
      exact ⟨ret_str HF.out, HB.out⟩

theorem own_below {w w' : World} {B base : Nat} {e : TypeId} {size n : Nat} {v : Value} {xs : List Value} (h : w.ownsRow base e size v n xs) (hb : Below B w w') (hg : ∀ g, v.ownBlock = some g → g < B) : w'.ownsRow base e size v n xs := by
  refine ⟨h.1, ?_⟩
  rcases h.2 with hn | ⟨g, cap, cur, rfl, hbg, hgg, rest⟩
  · exact .inl hn
  · exact .inr ⟨g, cap, cur, rfl, hbg, (hb.block g (hg g rfl)).trans hgg, rest⟩
theorem own_lt {w : World} {base : Nat} {e : TypeId} {size n : Nat} {v : Value} {xs : List Value} (h : w.ownsRow base e size v n xs) : ∀ g, v.ownBlock = some g → g < w.heap.size := by
  intro k hk
  rcases h.2 with ⟨rfl, rfl⟩ | ⟨g, cap, cur, rfl, hb, hg, _⟩
  · cases hk
  · simp only [Value.ownBlock, Option.some.injEq] at hk
    subst hk
    exact (Array.getElem?_eq_some_iff.1 hg).1
theorem own_at {w : World} {base : Nat} {e : TypeId} {n c : Nat} {A : Option Addr} {xs : List Value} (h : w.ownsRow base e 1 (.slice A n c) n xs) (hn : 0 < n) : ∃ g, A = some ⟨g, 0, none⟩ ∧ base ≤ g ∧ g < w.heap.size := by
  rcases h.2 with ⟨_, h0⟩ | ⟨g, cap, cur, hv, hb, hg, _⟩
  · omega
  · simp only [Value.slice.injEq] at hv
    exact ⟨g, hv.1, hb, (Array.getElem?_eq_some_iff.1 hg).1⟩

/-- The marks. -/
def marks (n : Nat) : List Value := (List.range n).map fun j => .string (mkB (1 + j))
theorem marks_at {n j : Nat} (h : j < n) : (marks n)[j]? = some (.string (mkB (1 + j))) := by
  unfold marks
  rw [List.getElem?_map, List.getElem?_range h]; rfl

set_option maxHeartbeats 1000000 in
theorem markStringS_any (n c base : Nat) (A : Option Addr) (xs : List Value) (w : World) (h : w.ownsRow base 9 1 (.slice A n c) n xs) (hbase : base ≤ w.heap.size) (hn : n ≤ 900000) :
    Calls Try.prog 19 #[.slice A n c, .int .i64 1] w fun e w' => e = .returned (.int .i64 (1 + (n : Int))) ∧ w'.ownsRow base 9 1 (.slice A n c) n (marks n) ∧ Below base w w' := by
  go_enter Try.func19, Try.ntmps19
  go_wp2
  go_loopw [1, 5] (fun t1 t5 wr => ∃ (k : Nat) (ys : List Value), k ≤ n ∧ t5 = .int .i64 k ∧ t1 = .int .i64 (1 + (k : Int)) ∧ wr.ownsRow base 9 1 (.slice A n c) n ys ∧ Hid (∀ j, j < k → ys[j]? = some (.string (mkB (1 + j)))) ∧ Below base w wr) (fun _ t5 _ => n - (intOf t5).toNat)
  case atStart => exact ⟨0, _, Nat.zero_le _, rfl, rfl, h, fun j hj => absurd hj (by omega), Below.refl _ _⟩
  case round =>
    obtain ⟨k, ys, hk, rfl, rfl, hrow, HY, hb⟩ := hrel
    have hyl : ys.length = n := by have := hrow.1; omega
    by_cases hlt : k < n
    · obtain ⟨g, rfl, hbg, hgl⟩ := own_at hrow (by omega)
      have HR := Lib.hid hrow
      have HB := Lib.hid hb
      have hsz := hb.size
      clear h hrow hb
      go_wp2_with fail
      refine (markText_any (1 + k) _ (by omega) (by omega)).mono ?_
      rintro e w1 ⟨rfl, hb1⟩
      have hrow1 := own_below HR.out hb1 (fun g' hg' => own_lt HR.out g' hg')
      have hb2 : Below base w w1 := below_tr HB.out hb1 (Nat.le_trans hbase hsz)
      obtain ⟨old, hold⟩ := at_lt ys (k := k) (by omega)
      have hcell := hrow1.cellAt k (by omega)
      rw [hold] at hcell
      have hfr := hrow1.frozenAt k
      have HO := Lib.hid (hrow1.stored k (.string (mkB (1 + k)))).1
      have HB2 := Lib.hid (hb2.setCell (p := ⟨g, k, none⟩) hbg (.string (mkB (1 + k))))
      have HY2 : Hid (∀ j, j < k + 1 → (ys.set k (.string (mkB (1 + k))))[j]? = some (.string (mkB (1 + j)))) := by
        intro j hj
        rw [List.getElem?_set]
        by_cases e : k = j
        · subst e
          rw [if_pos rfl, if_pos (by omega)]
        · rw [if_neg e]; exact HY.out j (by omega)
      clear hrow1 hb1 hb2 hold hyl HR HB HY
      go_wp2
      go_roundw
      case rel => exact ⟨k + 1, _, by omega, by go_num, by congr 1 <;> omega, HO.out, HY2, HB2.out⟩
      case measure => simp [intOf]; omega
    · have e : k = n := by omega
      subst e
      have hy : ys = marks k := by
        apply List.ext_getElem?
        intro j
        by_cases hj : j < k
        · rw [HY.out j hj, marks_at hj]
        · rw [List.getElem?_eq_none (by omega), List.getElem?_eq_none (by simp [marks]; omega)]
      rw [hy] at hrow
      have HR := Lib.hid hrow
      have HB := Lib.hid hb
      clear h hrow hb hy hyl HY
      go_wp2
      go_ret
      exact ⟨rfl, HR.out, HB.out⟩

set_option maxHeartbeats 1000000 in
theorem heldStringS_any (n c base : Nat) (A : Option Addr) (w : World) (h : w.ownsRow base 9 1 (.slice A n c) n (marks n)) (hn : n ≤ 900000) :
    Calls Try.prog 20 #[.slice A n c, .int .i64 1] w fun e w' => e = .returned (.int .i64 (1 + (n : Int))) ∧ Below w.heap.size w w' := by
  go_enter Try.func20, Try.ntmps20
  go_wp2
  go_loopw [1, 5] (fun t1 t5 wr => ∃ k : Nat, k ≤ n ∧ t5 = .int .i64 k ∧ t1 = .int .i64 (1 + (k : Int)) ∧ Below w.heap.size w wr) (fun _ t5 _ => n - (intOf t5).toNat)
  case atStart => exact ⟨0, Nat.zero_le _, rfl, rfl, Below.refl _ _⟩
  case round =>
    obtain ⟨k, hk, rfl, rfl, hb⟩ := hrel
    by_cases hlt : k < n
    · obtain ⟨g, rfl, hbg, hgl⟩ := own_at h (by omega)
      have hc0 := h.cellAt k (by omega)
      rw [marks_at hlt] at hc0
      have hcell : wr.cell? ⟨g, k, none⟩ = some (.string (mkB (1 + k))) := (hb.cell (p := ⟨g, k, none⟩) hgl).trans hc0
      have hsz := hb.size
      have HB := Lib.hid hb
      have HT := Lib.hid (fun wx => markText_any (1 + k) wx (by omega) (by omega))
      clear h hc0 hb
      go_wp2
      go_region_with (go_at_call 34; refine (HT.out _).mono ?_; rintro e w1 ⟨rfl, hb1⟩; have hc1 : w1.cell? ⟨g, k, none⟩ = some (.string (mkB (1 + k))) := (hb1.cell (p := ⟨g, k, none⟩) (by show g < wr.heap.size; omega)).trans hcell)
      all_goals go_wp2
      all_goals go_roundw
      all_goals first
        | exact ⟨k + 1, by omega, by go_num, by congr 1 <;> omega, HB.out.drew.trans (hb1.mono hsz)⟩
        | exact ⟨k + 1, by omega, by go_num, by congr 1 <;> omega, HB.out.trans (hb1.mono hsz)⟩
        | (simp [intOf]; omega)
    · have e : k = n := by omega
      subst e
      clear h
      go_wp2
      go_ret
      exact ⟨rfl, hb⟩
end Go.Proofs.Ytofcnabpfdnohaa
