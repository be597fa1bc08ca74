/- The third draw of FnSplitJoin: a list of texts of its own, and a mark. -/
import Derived.Test.YtofcnabpfdnohaaDraws
import Derived.Test.YtofcnabpfdnohaaL1Split
import Derived.Test.YtofcnabpfdnohaaMark
import Derived.Laws.BytesArg
import Derived.Deep.OwnRows
namespace Go.Proofs.Ytofcnabpfdnohaa
open Go.RowKit
set_option linter.unusedVariables false

theorem one_any (n : Int) (w : World) (B m n0 : Nat) (h : CurIs w B m n0) (hm : m ≤ 900000000) (hn1 : 1 < n) (hn2 : n ≤ 1000000) :
    Calls Try.prog 29 #[.pointer (some ⟨B, 0, none⟩), .int .i64 n] w fun e w' => ∃ b : Bool, e = .returned (.bool b) ∧ CurIs w' B (m + 2) n0 ∧ w.grownBy w' (some B) := by
  have HP := Lib.hid (pick_any n w B m n0 h hm hn1 hn2)
  clear h
  go_enter Try.func29, Try.ntmps29
  go_wp2_with fail
  refine HP.out.mono ?_
  rintro e w1 ⟨r, rfl, hr0, hr1, hc1, hg1⟩
  have H1 := Lib.hid hc1
  have H2 := Lib.hid hg1
  clear hc1 hg1
  go_wp2
  go_ret
  exact ⟨_, rfl, H1.out, H2.out⟩

/-- The list so far: k texts, a row of its own behind the cursor. -/
def JoinRow (w wr : World) (t : Value) (k m : Nat) : Prop :=
  ∃ l : List ByteArray, l.length = k ∧ (∀ s ∈ l, s.size ≤ 4100) ∧ wr.ownsRow (w.heap.size + 1) 9 1 t k (l.map .string) ∧ CurIs wr w.heap.size m w.heap.size ∧ Below w.heap.size w wr ∧ w.heap.size + 1 ≤ wr.heap.size

theorem below_cur2 {w wr w' : World} {B : Nat} (h : Below B w wr) (hs : B ≤ w.heap.size) (hg : wr.grownBy w' (some B)) : Below B w w' :=
  h.trans ⟨hg.os, hg.tape, hg.output, hg.size, fun k hk => hg.block k (by have := h.size; omega) (fun e => by cases e; omega)⟩

theorem JoinRow.call {w wr w1 : World} {t : Value} {k m m' : Nat} (h : JoinRow w wr t k m) (hc : CurIs w1 w.heap.size m' w.heap.size) (hg : wr.grownBy w1 (some w.heap.size)) : JoinRow w w1 t k m' := by
  obtain ⟨l, h1, h2, h3, h4, h5, h6⟩ := h
  refine ⟨l, h1, h2, h3.kept hg ?_, hc, below_cur2 h5 (Nat.le_refl _) hg, Nat.le_trans h6 hg.size⟩
  by_cases hn : t.ownBlock = none
  · exact .inl hn
  · refine .inr fun e => ?_
    have := own_ge h3 e
    omega

theorem JoinRow.app {w wr w2 w3 : World} {t v' : Value} {k m : Nat} {l : List ByteArray} {s : ByteArray} (hl : l.length = k) (hz : ∀ s ∈ l, s.size ≤ 4100) (hs : s.size ≤ 4100)
    (hown : wr.ownsRow (w.heap.size + 1) 9 1 t k (l.map .string)) (hc : CurIs wr w.heap.size m w.heap.size) (hb : Below w.heap.size w wr) (h6 : w.heap.size + 1 ≤ wr.heap.size)
    (hg2 : wr.grownBy w2 none) (hown' : w3.ownsRow (w.heap.size + 1) 9 1 v' (k + 1) (l.map .string ++ [.string s])) (hg3 : w2.grownBy w3 t.ownBlock) : JoinRow w w3 v' (k + 1) m := by
  refine ⟨l ++ [s], by simp [hl], fun x hx => ?_, by simpa using hown', (hc.kept hg2 (by simp) (fun _ e => by cases e)).kept hg3 (fun e => by have := own_ge hown e; omega) (fun g e => by have := own_ge hown e; omega), ?_, Nat.le_trans h6 (Nat.le_trans hg2.size hg3.size)⟩
  · rcases List.mem_append.1 hx with h | h
    · exact hz x h
    · simp at h; subst h; exact hs
  · have hb2 : Below w.heap.size w w2 := hb.trans ⟨hg2.os, hg2.tape, hg2.output, hg2.size, fun j hj => hg2.block j (by have := hb.size; omega) (by simp)⟩
    exact hb2.trans ⟨hg3.os, hg3.tape, hg3.output, hg3.size, fun j hj => hg3.block j (by have := hb2.size; omega) (fun e => by have := own_ge hown e.symm; omega)⟩

theorem texts9_size : ∀ s ∈ texts9, s.size ≤ 10 := by decide +kernel
theorem infoU8 : (Try.prog.info? 5).map (fun i => (i.zero, i.size, i.bytes)) = some (some (.int .u8 0), 1, 1) := by kernel_rfl

theorem conv_made (w : World) (n : Nat) : ∃ s : ByteArray, s.size = n ∧
    (convert 22 9 (.slice (some ⟨w.heap.size, 0, none⟩) n n)).run Try.prog (w.alloc (.cells (madeCells #[.int .u8 0] n) 5)) = .ok (.string s) (w.alloc (.cells (madeCells #[.int .u8 0] n) 5)) := by
  refine ⟨strOfNums (List.replicate n 0), by rw [strOfNums_size]; simp, ?_⟩
  refine run_convert_bytes_arg (P := Try.prog) _ 22 5 Try.underlying22 Try.underlying5 w.heap.size 0 n n (List.replicate n 0) (by simp) (fun i hi => ?_) 9 Try.underlying9
  rw [Nat.zero_add, cell_of_row _ _ i _ _ (0, 0) (heap_alloc_new w _), ← Array.getElem?_toList, toList_madeCells_one]
  simp [hi, List.getD_eq_getElem?_getD]

theorem own_mono {w : World} {base base' : Nat} {e : TypeId} {size n : Nat} {v : Value} {xs : List Value} (h : w.ownsRow base e size v n xs) (hb : base' ≤ base) : w.ownsRow base' e size v n xs :=
  ⟨h.1, h.2.imp id (fun ⟨g, cap, cur, h1, h2, h3⟩ => ⟨g, cap, cur, h1, Nat.le_trans hb h2, h3⟩)⟩

theorem made_run (w : World) (p : Nat) (hp : p < 20) :
    (Instr.makeSlice 22 (.int .i64 (3990 + (p : Int))) (.int .i64 (3990 + (p : Int)))).run Try.prog w = .ok (.slice (some ⟨w.heap.size, 0, none⟩) (3990 + p) (3990 + p)) (w.alloc (.cells (madeCells #[.int .u8 0] (3990 + p)) 5)) := by
  have h := run_make_row' (P := Try.prog) 22 5 (.int .u8 0) 1 Try.underlying22 infoU8 rfl .i64 .i64 (3990 + p) (by omega) (by omega) w
  rw [show (3990 + (p : Int)) = ((3990 + p : Nat) : Int) from by omega]
  exact h

def JoinPost (w : World) (e : Ending) (w' : World) : Prop :=
  ∃ (l : List ByteArray) (mark : ByteArray) (A : Option Addr) (c : Nat), l.length ≤ 5 ∧ (∀ s ∈ l, s.size ≤ 4100) ∧ mark ∈ marksOf ∧ e = .returned (.tuple #[.slice A l.length c, .string mark]) ∧
    w'.ownsRow w.heap.size 9 1 (.slice A l.length c) l.length (l.map .string) ∧ Below w.heap.size w w'

theorem join_end {w w' : World} {t : Value} {k m : Nat} {mark : ByteArray} (h : JoinRow w w' t k m) (hk : k ≤ 5) (hm : mark ∈ marksOf) : JoinPost w (.returned (.tuple #[t, .string mark])) w' := by
  obtain ⟨l, rfl, h2, h3, h4, h5, h6⟩ := h
  obtain ⟨A, c, rfl⟩ := own_shape h3
  exact ⟨l, mark, A, c, hk, h2, hm, rfl, own_mono h3 (by omega), h5⟩

theorem of_marks (w w1 : World) (t : Value) (k m : Nat) (h : JoinRow w w1 t k m) (hm : m ≤ 1000) :
    Calls Try.prog 26 #[.pointer (some ⟨w.heap.size, 0, none⟩), .slice (some ⟨w1.heap.size, 0, none⟩) 5 5] (w1.alloc (.cells #[.string ⟨#[44]⟩, .string ⟨#[59]⟩, .string ⟨#[59]⟩, .string ⟨#[]⟩, .string ⟨#[97, 98]⟩] 9))
      fun e w' => ∃ s : ByteArray, s ∈ marksOf ∧ e = .returned (.string s) ∧ JoinRow w w' t k (m + 2) := by
  obtain ⟨l, h1, h2, h3, h4, h5, h6⟩ := h
  have hg := World.grownBy_alloc w1 (.cells #[.string ⟨#[44]⟩, .string ⟨#[59]⟩, .string ⟨#[59]⟩, .string ⟨#[]⟩, .string ⟨#[97, 98]⟩] 9) none
  have hc := h4.kept hg (by simp) (fun _ e => by cases e)
  refine (of_any marksOf w1.heap.size 5 _ w.heap.size m w.heap.size hc (by omega) (by decide) (by decide) (by omega) (by simp) (fun j s hs => ?_)).mono ?_
  · rw [cell_of_row _ _ j _ 9 (0, 0) (heap_alloc_new w1 _)]
    have := map_at (f := Value.string) hs
    rw [← this]
    simp [marksOf]
  · rintro e w' ⟨s, hs, rfl, hc', hg'⟩
    exact ⟨s, hs, rfl, JoinRow.call ⟨l, h1, h2, h3.kept hg (by
      by_cases hn : t.ownBlock = none
      · exact .inl hn
      · exact .inr hn), hc, h5.trans ⟨hg.os, hg.tape, hg.output, hg.size, fun j hj => hg.block j (by omega) (by simp)⟩, Nat.le_trans h6 hg.size⟩ hc' hg'⟩

set_option maxHeartbeats 4000000 in
theorem drawJoin_any (A : Option Addr) (n c : Nat) (w : World) (h : CodeIs w A n) (hn : n ≤ 65536) :
    Calls Try.prog 11 #[.slice A n c] w (JoinPost w) := by
  obtain ⟨i0, hi, hz0, hz1, hz2⟩ := info_parts infoString
  obtain ⟨i1, hi1, hy0, hy1, hy2⟩ := info_parts infoU8
  have hcur := cur_new (c := c) h (by omega)
  have hcurV := hcur.kept (World.grownBy_alloc _ (.cells #[] 9) none) (by simp) (fun _ e => by cases e)
  have hrow0 : JoinRow w ((w.alloc (.cells #[.slice A n c, .int .i64 0, .int .u64 0] 44)).alloc (.cells #[] 9)) (.slice (some ⟨w.heap.size + 1, 0, none⟩) 0 0) 0 0 := by
    refine ⟨[], rfl, (fun s hs => by cases hs), ?_, hcurV, ((Below.refl _ _).alloc (Nat.le_refl _) _).alloc (by simp) _, by simp⟩
    have := own_empty (w.alloc (.cells #[.slice A n c, .int .i64 0, .int .u64 0] 44)) (w.heap.size + 1) 9 (by simp)
    simpa using this
  have H1 := Lib.hid (pick_any 4 _ w.heap.size 0 w.heap.size hcurV (by omega) (by omega) (by omega))
  have H0 := Lib.hid hrow0
  clear h hcur hcurV hrow0
  go_enter Try.func11, Try.ntmps11
  go_wp2_with fail
  refine H1.out.mono ?_
  rintro e w1 ⟨r, rfl, hr0, hr1, hc1, hg1⟩
  obtain ⟨q, rfl⟩ := Int.eq_ofNat_of_zero_le hr0
  have J1 := Lib.hid (H0.out.call hc1 hg1)
  have hq : q < 4 := by omega
  clear hc1 hg1 hr0 hr1 H0 H1
  go_wp2
  go_loopw [5, 7] (fun t5 t7 wr => ∃ (k m : Nat), t7 = .int .i64 k ∧ k ≤ q ∧ m ≤ 2 + 2 * k ∧ Hid (JoinRow w wr t5 k m)) (fun _ t7 _ => q - (intOf t7).toNat)
  case atStart => exact ⟨0, 2, rfl, by omega, by omega, J1⟩
  case round =>
    obtain ⟨k, m, rfl, hkq, hmk, HJ⟩ := hrel
    by_cases hlt : k < q
    · have HC := Lib.hid (any1_any wr w.heap.size m w.heap.size HJ.out.choose_spec.2.2.2.1 (by omega))
      go_wp2_with fail
      refine HC.out.mono ?_
      rintro e w1 ⟨s, hs, rfl, hc1, hg1⟩
      have hsz := texts9_size s hs
      obtain ⟨l, hl1, hl2, hl3, hl4, hl5, hl6⟩ := HJ.out.call hc1 hg1
      have L1 := Lib.hid hl1
      have L2 := Lib.hid hl2
      have L3 := Lib.hid hl3
      have L4 := Lib.hid hl4
      have L5 := Lib.hid hl5
      clear hl1 hl2 hl3 hl4 hl5 hc1 hg1 hs
      obtain ⟨A5, c5, rfl⟩ := own_shape L3.out
      go_wp2_with (at_builtin; refine wpList_append_own _ rfl _ _ 26 rfl (w.heap.size + 1) 9 i0 (.string ⟨#[]⟩) 1 16 Try.underlying26 hi hz0 hz1 hz2 rfl (by decide) _ _ _ rfl (L3.out.alloc _) ⟨w1.heap.size, 0, none⟩ 1 1 [.string s] rfl rfl (cell_one_new _ _ _) (fun x hx => by simp at hx; subst hx; rfl) (by unfold maxLen; omega) (by omega) (by simp; omega) ?_; intro v' w3 hown' hgrow3 _)
      have J3 := Lib.hid (JoinRow.app L1.out L2.out (Nat.le_trans hsz (by omega)) L3.out L4.out L5.out hl6 (World.grownBy_alloc w1 _ none) hown' hgrow3)
      clear hown' hgrow3
      go_wp2
      go_roundw
      case rel => exact ⟨k + 1, m + 2, by go_num, by omega, by omega, J3⟩
      case measure => simp [intOf]; omega
    · have HC := Lib.hid (one_any 20 wr w.heap.size m w.heap.size HJ.out.choose_spec.2.2.2.1 (by omega) (by omega) (by omega))
      go_wp2_with fail
      refine HC.out.mono ?_
      rintro e w1 ⟨b, rfl, hc1, hg1⟩
      have J2 := Lib.hid (HJ.out.call hc1 hg1)
      clear hc1 hg1 HJ HC
      cases b
      · have HM := Lib.hid (of_marks w w1 _ k (m + 2) J2.out (by omega))
        go_wp2_with fail
        refine HM.out.mono ?_
        rintro e w2 ⟨s, hs, rfl, hj⟩
        have HE := Lib.hid (join_end hj (by omega) hs)
        clear hs hj
        go_wp2
        go_ret2
        exact HE.out
      · have HP := Lib.hid (pick_any 20 w1 w.heap.size (m + 2) w.heap.size J2.out.choose_spec.2.2.2.1 (by omega) (by omega) (by omega))
        go_wp2_with fail
        refine HP.out.mono ?_
        rintro e w2 ⟨r, rfl, hr0, hr1, hc2, hg2⟩
        obtain ⟨p, rfl⟩ := Int.eq_ofNat_of_zero_le hr0
        have hp : p < 20 := by omega
        obtain ⟨l, hl1, hl2, hl3, hl4, hl5, hl6⟩ := J2.out.call hc2 hg2
        have L1 := Lib.hid hl1
        have L2 := Lib.hid hl2
        have L3 := Lib.hid hl3
        have L4 := Lib.hid hl4
        have L5 := Lib.hid hl5
        clear hl1 hl2 hl3 hl4 hl5 hc2 hg2 hr0 hr1
        obtain ⟨A5, c5, rfl⟩ := own_shape L3.out
        obtain ⟨s, hs, hcv⟩ := conv_made w2 (3990 + p)
        have hmk := made_run w2 p (by omega)
        have hg2 := World.grownBy_alloc w2 (.cells (madeCells #[.int .u8 0] (3990 + p)) 5) none
        have HG2 := Lib.hid hg2
        obtain ⟨V, hV⟩ : ∃ V, w2.alloc (.cells (madeCells #[.int .u8 0] (3990 + p)) 5) = V := ⟨_, rfl⟩
        have L3b := Lib.hid (L3.out.alloc (.cells (madeCells #[.int .u8 0] (3990 + p)) 5))
        rw [hV] at hcv hmk HG2 L3b
        have hVs : w2.heap.size ≤ V.heap.size := HG2.out.size
        clear hV hg2
        go_wp2_with (at_builtin; go_loud (refine wpList_append_own _ rfl _ _ 26 rfl (w.heap.size + 1) 9 i0 (.string ⟨#[]⟩) 1 16 Try.underlying26 hi hz0 hz1 hz2 rfl (by decide) _ _ _ rfl (L3b.out.alloc _) ⟨V.heap.size, 0, none⟩ 1 1 [.string s] rfl rfl (cell_one_new _ _ _) (fun x hx => by simp at hx; subst hx; rfl) (by unfold maxLen; omega) (by omega) (by simp; omega) ?_); intro v' w3 hown' hgrow3 _)
        have J3 := Lib.hid (JoinRow.app L1.out L2.out (by omega) L3.out L4.out L5.out hl6 (grownBy_tr HG2.out (World.grownBy_alloc V _ none)) hown' hgrow3)
        clear hown' hgrow3 hcv hmk L3 L3b
        have HM := Lib.hid (of_marks w w3 _ (k + 1) (m + 2 + 2) J3.out (by omega))
        go_wp2_with fail
        refine HM.out.mono ?_
        rintro e w4 ⟨s4, hs4, rfl, hj⟩
        have HE := Lib.hid (join_end hj (by omega) hs4)
        clear hs4 hj
        go_wp2
        go_ret2
        exact HE.out
end Go.Proofs.Ytofcnabpfdnohaa
