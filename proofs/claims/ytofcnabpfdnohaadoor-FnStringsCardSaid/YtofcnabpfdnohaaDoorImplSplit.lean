/- The contract of impl.SplitString: a new slice of the parts. -/
import Derived.RangeFuncBox
import Derived.RangeFuncNested
import Derived.RangeFuncLeaves
import Derived.Shelf.Abstract
import Derived.WalkKit
import Derived.OwnWalkIn
import Derived.TacticsInMore
import Derived.LoopNIn
import Derived.LoopIn
import Derived.Maps.AppendAt
import Derived.WalkSpells
import Derived.WalkLawsBesides
import Derived.Outline
import Derived.Test.YtofcnabpfdnohaaDoorParts
import Derived.Maps.OwnIn
namespace Go.Proofs.YtofcnabpfdnohaaDoor
open Go.RowKit Go.Shelf
set_option linter.unusedVariables false

attribute [local go_sem] Oper.semAt_some

theorem far_of {v v' : Value} {m B : Nat} (hat : v'.ownBlock = v.ownBlock ∨ v'.ownBlock = some m) (h : v.ownBlock ≠ some B) (hm : B < m) : v'.ownBlock ≠ some B := by
  rcases hat with e | e
  · rw [e]; exact h
  · rw [e]; simp only [ne_eq, Option.some.injEq]; omega

theorem implSplit_bad (s sep : ByteArray) (w : World) (hs : s.size ≤ maxLen) (hsep : sep.size ≤ maxLen) (h : 4000 < s.size ∨ sep.size ≠ 1) :
    Calls Tryd.prog 35 #[.string s, .string sep] w fun e w' => e = .returned (.tuple #[.slice (some ⟨w.heap.size, 0, none⟩) 0 0, .bool false]) ∧ w' = w.alloc (.cells #[] 9) := by
  unfold maxLen at hs hsep
  by_cases h1 : 4000 < s.size
  · clear h
    go_enter Tryd.func35, Tryd.ntmps35
    go_wp2
    go_ret2
    exact ⟨rfl, rfl⟩
  · have t1 : ((sep.size : Int) != 1) = true := by rw [bne_iff_ne]; omega
    clear h
    go_enter Tryd.func35, Tryd.ntmps35
    go_wp2
    go_ret2
    exact ⟨rfl, rfl⟩

set_option maxRecDepth 100000 in
set_option maxHeartbeats 2000000 in
theorem implSplit_in (F : Fence) (n : Nat) (h3 : F.fn 35) (h4 : F.fn 44) (h5 : F.fn 54) (hro : F.round = none) (hn : 3 ≤ n) (s : ByteArray) (b : UInt8) (hs : s.size ≤ 4000) (w : World) :
    CallsIn F n Tryd.prog 35 #[.string s, .string ⟨#[b]⟩] w fun e w' => ∃ A c, e = .returned (.tuple #[.slice A (splitOf s b).length c, .bool true]) ∧ w'.ownsRow w.heap.size 9 1 (.slice A (splitOf s b).length c) (splitOf s b).length ((splitOf s b).map .string) ∧ Below w.heap.size w w' := by
  have h1 : 1 ≤ n := by omega
  have hd : decide (4000 < (s.size : Int)) = false := by simp; omega
  obtain ⟨i0, hi, hz0, hz1, hz2⟩ := info_parts infoString
  refine callsIn_of_wp_marks Tryd.func35 rfl h3 ?_ hro
  simp only [Tryd.ntmps35, List.size_toArray, List.length_cons, List.length_nil, Nat.reduceAdd, Nat.reduceSub, Array.replicate_succ, Array.replicate_zero, List.push_toArray, List.append_toArray, List.nil_append, List.cons_append]
  gi_wp2_with (gi_at_call 44; refine (partsBetween_in F (n - 1) h4 hro _ _ _).mono ?_; rintro e w' ⟨rfl, rfl⟩)
  obtain ⟨W0, hW0⟩ : ∃ W0, ((((w.alloc (.cells #[] 9)).alloc (.cells #[.slice (some ⟨w.heap.size, 0, none⟩) 0 0] 44)).alloc (.cells #[.string s] 9)).alloc (.cells #[.int .u8 b.toNat] 5)) = W0 := ⟨_, rfl⟩
  have hsz : W0.heap.size = w.heap.size + 4 := by rw [← hW0]; simp
  have bO : Boxed W0 (w.heap.size + 1) 44 (.slice (some ⟨w.heap.size, 0, none⟩) 0 0) := by
    rw [← hW0]
    have h := Boxed.new (w.alloc (.cells #[] 9)) 44 (.slice (some ⟨w.heap.size, 0, none⟩) 0 0)
    rw [World.size_alloc] at h
    exact (h.alloc _).alloc _
  have bS : Boxed W0 (w.heap.size + 1 + 1) 9 (.string s) := by
    rw [← hW0]
    have h := Boxed.new ((w.alloc (.cells #[] 9)).alloc (.cells #[.slice (some ⟨w.heap.size, 0, none⟩) 0 0] 44)) 9 (.string s)
    rw [World.size_alloc, World.size_alloc] at h
    exact h.alloc _
  have bB : Boxed W0 (w.heap.size + 1 + 1 + 1) 5 (.int .u8 b.toNat) := by
    rw [← hW0]
    have h := Boxed.new (((w.alloc (.cells #[] 9)).alloc (.cells #[.slice (some ⟨w.heap.size, 0, none⟩) 0 0] 44)).alloc (.cells #[.string s] 9)) 5 (.int .u8 b.toNat)
    rw [World.size_alloc, World.size_alloc, World.size_alloc] at h
    exact h
  have rO : W0.ownsRow w.heap.size 9 1 (.slice (some ⟨w.heap.size, 0, none⟩) 0 0) 0 [] := by
    rw [← hW0]
    exact (((own_empty w w.heap.size 9 (Nat.le_refl _)).alloc _).alloc _).alloc _
  have hB0 : Below w.heap.size w W0 := by
    rw [← hW0]
    exact ((((Below.refl _ w).alloc (Nat.le_refl _) _).alloc (by simp) _).alloc (by simp; omega) _).alloc (by simp; omega) _
  rw [show ((((w.alloc (.cells #[] 9)).alloc (.cells #[.slice (some ⟨w.heap.size, 0, none⟩) 0 0] 44)).alloc (.cells #[.string s] 9)).alloc (.cells #[.int .u8 (((⟨#[b]⟩ : ByteArray)[0]'(Nat.zero_lt_one)).toNat : Int)] 5)) = W0 from hW0]
  clear hW0
  refine wpIn_rangeFunc_ownF hro h1 (gf := 54) (lb := #[.pointer (some ⟨w.heap.size + 1 + 1, 0, none⟩), .pointer (some ⟨w.heap.size + 1 + 1 + 1, 0, none⟩)]) rfl h5 (enters_of Tryd.func54 (by kernel_rfl) rfl)
    (parts_stops F (n - 1) h5 hro (by omega) (w.heap.size + 1 + 1) (w.heap.size + 1 + 1 + 1) s b (by omega) W0 bS bB) KpB.trans (fun W l o o' hl _ _ _ => KpB.put (n := w.heap.size + 4) (by omega) (by omega) W l o' (by omega)) (Below.refl _ _) (fun _ => rfl)
    (fun pre W => (∃ v, Boxed W (w.heap.size + 1) 44 v ∧ W.ownsRow w.heap.size 9 1 v pre.length (pre.map .string) ∧ (v.ownBlock ≠ some (w.heap.size + 1 + 1) ∧ v.ownBlock ≠ some (w.heap.size + 1 + 1 + 1))) ∧ (Below w.heap.size w W ∧ w.heap.size + 4 ≤ W.heap.size))
    (fun _ _ _ => False)
    (OwnFrom.and (Own.from (holdsRow_own w.heap.size (w.heap.size + 1) 44 9 1 (fun pre : List ByteArray => pre.length) (fun pre => pre.map Value.string) (fun _ v => v.ownBlock ≠ some (w.heap.size + 1 + 1) ∧ v.ownBlock ≠ some (w.heap.size + 1 + 1 + 1))) _)
      (OwnFrom.and (ownFrom_below (Nat.le_refl _) (by omega)) (fun _ _ _ _ hs hg _ => Nat.le_trans hs hg.size)))
    (fun _ _ _ _ _ hs _ _ => hs)
    ⟨⟨_, bO, rO, by simp [Value.ownBlock]; omega, by simp [Value.ownBlock]; omega⟩, hB0, by omega⟩
    (fun x => { tmps := #[.string s, .string ⟨#[b]⟩, undef, undef, .slice none 0 0, .bool false, .pointer (some ⟨w.heap.size + 1, 0, none⟩), .string x, .string s, .int .i64 s.size, .bool false, .bool false, .string ⟨#[b]⟩, .int .i64 1, .bool false, .bool false, undef, .slice (some ⟨w.heap.size, 0, none⟩) 0 0, .string s, .string ⟨#[b]⟩, .int .u8 b.toNat,
      .func (.func 54) #[] #[.pointer (some ⟨w.heap.size + 1 + 1, 0, none⟩), .pointer (some ⟨w.heap.size + 1 + 1 + 1, 0, none⟩)], .string x, undef, undef, undef, undef, undef], defers := [] }) ?assign ?body ?done ?stop
  case assign =>
    intro l x W K hK
    gi_wp2
    exact hK
  case body =>
    rintro l pre x W ⟨⟨v, hv, hrow, hv1, hv2⟩, hB, hsW⟩ hlt
    have hc := hv.cell
    gi_wp2_with (gi_at_builtin; refine wpListIn_append_own_at _ rfl _ _ 44 rfl w.heap.size 9 i0 (.string ⟨#[]⟩) 1 16 Tryd.underlying44 hi hz0 hz1 hz2 rfl (by decide) _ _ _ rfl (hrow.alloc _) ⟨W.heap.size, 0, none⟩ 1 1 [.string x] rfl rfl (cell_one_new _ _ _) (by simp [Value.oneCell']) (by unfold maxLen; omega) (by omega) (by have := hB.size; simp; omega) ?_; intro v' w1 hown' hgrow _ hat; obtain ⟨g', cap', rfl⟩ := ownsRow_succ hown'; obtain ⟨hx1, hx2, hr2, hk2, hb2⟩ := hv.appended (by decide) hrow hB.size (by omega) hown' hgrow; have hc1 := hx1.cell; have hf1 := hx1.frozen)
    refine ⟨hk2, ⟨fun u t h => ((h.alloc _).kept hgrow (fun e => hv1 e.symm)).other (by omega) _, fun u t h => ((h.alloc _).kept hgrow (fun e => hv2 e.symm)).other (by omega) _⟩, ⟨_, hx2, ?_, far_of hat hv1 (by simp; omega), far_of hat hv2 (by simp; omega)⟩, hB.trans hb2, Nat.le_trans hsW hb2.size⟩
    rw [List.length_append, List.map_append]
    exact hr2
  case done =>
    rintro D ys W hD rfl ⟨⟨v, hv, hrow, _, _⟩, hB, _⟩ hK
    have hc := hv.cell
    obtain ⟨A, c, rfl⟩ := own_shape hrow
    gi_wp2
    refine ⟨by simp, .inl ⟨_, _, rfl, run_takeDeferred hK, ?_⟩⟩
    exact ⟨_, results_tmp2 (fn := Tryd.f35) rfl _ _ _, A, c, rfl, ownsRow_putObj hrow _ hK rfl, hB.trans (belowK_b (w := w) (Nat.le_refl _) W D _ _ (by omega) hK rfl rfl)⟩
  case stop =>
    rintro D c pre W _ _ h _
    exact h.elim
end Go.Proofs.YtofcnabpfdnohaaDoor
