/- The draws of FnStrings: a number, a text to read, a text to seal; vAt. -/
import Derived.Test.YtofcnabpfdnohaaDoorCode
import Derived.Test.YtofcnabpfdnohaaDoorNum
import Derived.Test.YtofcnabpfdnohaaDoorReadMath
namespace Go.Proofs.YtofcnabpfdnohaaDoor
open Go.RowKit
set_option linter.unusedVariables false

def AmongPost (l : List Int) (w : World) (B m n0 k : Nat) (e : Ending) (w' : World) : Prop :=
  ∃ s : Int, s ∈ l ∧ e = .returned (.int .i64 s) ∧ CurIs w' B (m + k) n0 ∧ w.grownBy w' (some B)

set_option maxHeartbeats 1000000 in
theorem among_any (l : List Int) (g c : Nat) (w : World) (B m n0 : Nat) (h : CurIs w B m n0) (hm : m ≤ 900000000) (hl1 : 1 < l.length) (hl2 : l.length ≤ 1000) (hg : g ≠ B) (hgl : g < w.heap.size)
    (hc : ∀ (k : Nat) (s : Int), l[k]? = some s → w.cell? ⟨g, k, none⟩ = some (.int .i64 s)) :
    Calls Tryd.prog 21 #[.pointer (some ⟨B, 0, none⟩), .slice (some ⟨g, 0, none⟩) l.length c] w (AmongPost l w B m n0 2) := by
  have HP := Lib.hid (pick_any l.length w B m n0 h hm (by omega) (by omega))
  have HC := Lib.hid hc
  obtain ⟨n, hn⟩ : ∃ n, l.length = n := ⟨_, rfl⟩
  rw [hn] at hl1 hl2 HP ⊢
  have HN := Lib.hid hn
  clear h hc hn
  go_enter Tryd.func21, Tryd.ntmps21
  go_wp2_with fail
  refine HP.out.mono ?_
  rintro e w1 ⟨r, rfl, hr0, hr1, hc1, hg1⟩
  obtain ⟨k, rfl⟩ := Int.eq_ofNat_of_zero_le hr0
  obtain ⟨s, hs⟩ := at_lt l (k := k) (by have := HN.out; omega)
  have hcell : w1.cell? ⟨g, k, none⟩ = some (.int .i64 s) := by
    rw [World.cell?_of_block (hg1.block g hgl (fun e => hg (by cases e; rfl)))]
    exact HC.out k s hs
  have hmem := List.mem_of_getElem? hs
  have HM := Lib.hid hmem
  have H1 := Lib.hid hc1
  have hk1 : k < n := by omega
  clear hs hmem hc1 hr0 hr1
  go_wp2
  go_ret
  exact ⟨s, HM.out, rfl, H1.out, hg1⟩

def IntPost (w : World) (e : Ending) (w' : World) : Prop := ∃ n : Int, -1000000 ≤ n ∧ n ≤ 1000000 ∧ e = .returned (.int .i64 n) ∧ Below w.heap.size w w'
def StrPost (w : World) (e : Ending) (w' : World) : Prop := ∃ s : ByteArray, s.size ≤ 4100 ∧ e = .returned (.string s) ∧ Below w.heap.size w w'

def nums9 (x : Int) : List Int := [0, 1, -1, 10, 999999, -999999, 1000000, -1000000, x]
theorem nums9_in {x n : Int} (h0 : -500 ≤ x) (h1 : x ≤ 500) (h : n ∈ nums9 x) : -1000000 ≤ n ∧ n ≤ 1000000 := by
  simp only [nums9, List.mem_cons, List.not_mem_nil, or_false] at h
  omega

set_option maxHeartbeats 2000000 in
theorem drawFormat_any (A : Option Addr) (n c : Nat) (w : World) (h : CodeIs w A n) (hn : n ≤ 65536) :
    Calls Tryd.prog 9 #[.slice A n c] w (IntPost w) := by
  have hcur := cur_new (c := c) h (by omega)
  obtain ⟨W, hW⟩ : ∃ W, w.alloc (.cells #[.slice A n c, .int .i64 0, .int .u64 0] 37) = W := ⟨_, rfl⟩
  rw [hW] at hcur
  have H1 := Lib.hid (pick_any 1000 W w.heap.size 0 w.heap.size hcur (by omega) (by omega) (by omega))
  have HB := Lib.hid (show ∀ w', W.grownBy w' (some w.heap.size) → Below w.heap.size w w' from fun w' hw' => cur_below (by rw [hW]; exact hw'))
  have hWs : w.heap.size < W.heap.size := by rw [← hW]; simp
  clear h hcur
  go_enter Tryd.func9, Tryd.ntmps9
  go_wp2_with fail
  try rw [show (w.alloc (.cells #[.slice A n c, .int .i64 0, .int .u64 0] 37)) = W from hW]
  refine H1.out.mono ?_
  rintro e w1 ⟨r, rfl, hr0, hr1, hc1, hg1⟩
  obtain ⟨V, hV⟩ : ∃ V, w1.alloc (.cells ((nums9 (r - 500)).map (Value.int .i64)).toArray 3) = V := ⟨_, rfl⟩
  have hlt : w.heap.size < w1.heap.size := by have := hg1.size; omega
  have hg2 : w1.grownBy V (some w.heap.size) := by rw [← hV]; exact World.grownBy_alloc w1 _ _
  have hcur2 : CurIs V w.heap.size 2 w.heap.size := hc1.kept (row := none) (by rw [← hV]; exact World.grownBy_alloc w1 _ _) (by simp) (fun _ e => by cases e)
  have H2 := Lib.hid (among_any (nums9 (r - 500)) w1.heap.size 9 V w.heap.size 2 w.heap.size hcur2 (by omega) (by simp [nums9]) (by simp [nums9]) (by omega) (by rw [← hV]; simp) (fun k s hs => by
    rw [← hV, cell_of_row _ _ k _ 3 (0, 0) (heap_alloc_new w1 _)]
    simp only [List.getElem?_toArray]
    exact map_at hs))
  have HG := Lib.hid (grownBy_tr hg1 hg2)
  have HR := Lib.hid (show ∀ x, x ∈ nums9 (r - 500) → -1000000 ≤ x ∧ x ≤ 1000000 from fun x hx => nums9_in (by omega) (by omega) hx)
  clear hc1 hg1 hg2 hcur2 hW
  go_wp2_with fail
  try rw [show (w1.alloc (.cells #[.int .i64 0, .int .i64 1, .int .i64 (-1), .int .i64 10, .int .i64 999999, .int .i64 (-999999), .int .i64 1000000, .int .i64 (-1000000), .int .i64 (r - 500)] 3)) = V from hV]
  refine H2.out.mono ?_
  rintro e w2 ⟨b, hb, rfl, hc2, hg2⟩
  have HT := Lib.hid (HR.out b hb)
  have HF := Lib.hid (HB.out _ (grownBy_tr HG.out hg2))
  clear hb hc2 hg2 hV
  go_wp2
  go_ret
  exact ⟨b, HT.out.1, HT.out.2, rfl, HF.out⟩

def texts11 : List ByteArray := [⟨#[]⟩, ⟨#[45]⟩, ⟨#[45, 48]⟩, ⟨#[48, 48]⟩, ⟨#[48, 49]⟩, ⟨#[45, 45, 49]⟩, ⟨#[49, 120]⟩, ⟨#[57, 57, 57, 57, 57, 57]⟩, ⟨#[49, 48, 48, 48, 48, 48, 48]⟩, ⟨#[45, 57, 57, 57, 57, 57, 57]⟩, ⟨#[49, 56, 52, 52, 54, 55, 52, 52, 48, 55, 51, 55, 48, 57, 53, 53, 49, 54, 49, 55]⟩]
theorem texts11_size : ∀ s ∈ texts11, s.size ≤ 20 := by decide +kernel

set_option maxHeartbeats 2000000 in
theorem drawParse_any (A : Option Addr) (n c : Nat) (w : World) (h : CodeIs w A n) (hn : n ≤ 65536) :
    Calls Tryd.prog 12 #[.slice A n c] w (StrPost w) := by
  have hcur := cur_new (c := c) h (by omega)
  obtain ⟨W, hW⟩ : ∃ W, w.alloc (.cells #[.slice A n c, .int .i64 0, .int .u64 0] 37) = W := ⟨_, rfl⟩
  rw [hW] at hcur
  have H1 := Lib.hid (one_any 2 W w.heap.size 0 w.heap.size hcur (by omega) (by omega) (by omega))
  have HB := Lib.hid (show ∀ w', W.grownBy w' (some w.heap.size) → Below w.heap.size w w' from fun w' hw' => cur_below (by rw [hW]; exact hw'))
  have hWs : w.heap.size < W.heap.size := by rw [← hW]; simp
  clear h hcur
  go_enter Tryd.func12, Tryd.ntmps12
  go_wp2_with fail
  try rw [show (w.alloc (.cells #[.slice A n c, .int .i64 0, .int .u64 0] 37)) = W from hW]
  refine H1.out.mono ?_
  rintro e w1 ⟨b, rfl, hc1, hg1⟩
  have hlt : w.heap.size < w1.heap.size := by have := hg1.size; omega
  cases b
  · have H2 := Lib.hid (pick_any 2000 w1 w.heap.size 2 w.heap.size hc1 (by omega) (by omega) (by omega))
    have HG := Lib.hid hg1
    clear hc1 hg1 hW
    go_wp2_with fail
    refine H2.out.mono ?_
    rintro e w2 ⟨r, rfl, hr0, hr1, hc2, hg2⟩
    have HF := Lib.hid (HB.out _ (grownBy_tr HG.out hg2))
    have hz : (⟨(Lib.itoa (r - 1000)).toArray⟩ : ByteArray).size ≤ 4100 := by
      rw [size_mk]
      have := Lib.itoa_length_le (r - 1000) (by omega) (by omega)
      omega
    have HZ := Lib.hid hz
    have H3 := Lib.hid (l1Num_any (r - 1000) w2 (by omega) (by omega))
    clear hc2 hg2 hz
    go_wp2_with fail
    refine H3.out.mono ?_
    rintro e w3 ⟨rfl, hd3⟩
    have HE := Lib.hid (HF.out.trans (hd3.below _))
    clear hd3
    go_wp2
    go_ret
    exact ⟨_, HZ.out, rfl, HE.out⟩
  · obtain ⟨V, hV⟩ : ∃ V, w1.alloc (.cells (texts11.map Value.string).toArray 9) = V := ⟨_, rfl⟩
    have hg2 : w1.grownBy V (some w.heap.size) := by rw [← hV]; exact World.grownBy_alloc w1 _ _
    have hcur2 : CurIs V w.heap.size 2 w.heap.size := hc1.kept (row := none) (by rw [← hV]; exact World.grownBy_alloc w1 _ _) (by simp) (fun _ e => by cases e)
    have H2 := Lib.hid (of_any texts11 w1.heap.size 11 V w.heap.size 2 w.heap.size hcur2 (by omega) (by decide) (by decide) (by omega) (by rw [← hV]; simp) (fun k s hs => by
      rw [← hV, cell_of_row _ _ k _ 9 (0, 0) (heap_alloc_new w1 _)]
      simp only [List.getElem?_toArray]
      exact map_at hs))
    have HG := Lib.hid (grownBy_tr hg1 hg2)
    clear hc1 hg1 hg2 hcur2 hW
    go_wp2_with fail
    try rw [show (w1.alloc (.cells #[.string ⟨#[]⟩, .string ⟨#[45]⟩, .string ⟨#[45, 48]⟩, .string ⟨#[48, 48]⟩, .string ⟨#[48, 49]⟩, .string ⟨#[45, 45, 49]⟩, .string ⟨#[49, 120]⟩, .string ⟨#[57, 57, 57, 57, 57, 57]⟩, .string ⟨#[49, 48, 48, 48, 48, 48, 48]⟩, .string ⟨#[45, 57, 57, 57, 57, 57, 57]⟩, .string ⟨#[49, 56, 52, 52, 54, 55, 52, 52, 48, 55, 51, 55, 48, 57, 53, 53, 49, 54, 49, 55]⟩] 9)) = V from hV]
    refine H2.out.mono ?_
    rintro e w2 ⟨b, hb, rfl, hc2, hg2⟩
    have HT := Lib.hid (texts11_size b hb)
    have HF := Lib.hid (HB.out _ (grownBy_tr HG.out hg2))
    clear hb hc2 hg2 hV
    go_wp2
    go_ret
    exact ⟨b, Nat.le_trans HT.out (by omega), rfl, HF.out⟩

set_option maxHeartbeats 2000000 in
theorem drawAppend_any (A : Option Addr) (n c : Nat) (w : World) (h : CodeIs w A n) (hn : n ≤ 65536) :
    Calls Tryd.prog 15 #[.slice A n c] w (StrPost w) := by
  have hcur := cur_new (c := c) h (by omega)
  obtain ⟨W, hW⟩ : ∃ W, w.alloc (.cells #[.slice A n c, .int .i64 0, .int .u64 0] 37) = W := ⟨_, rfl⟩
  rw [hW] at hcur
  have H1 := Lib.hid (one_any 20 W w.heap.size 0 w.heap.size hcur (by omega) (by omega) (by omega))
  have HB := Lib.hid (show ∀ w', W.grownBy w' (some w.heap.size) → Below w.heap.size w w' from fun w' hw' => cur_below (by rw [hW]; exact hw'))
  have hWs : w.heap.size < W.heap.size := by rw [← hW]; simp
  clear h hcur
  go_enter Tryd.func15, Tryd.ntmps15
  go_wp2_with fail
  try rw [show (w.alloc (.cells #[.slice A n c, .int .i64 0, .int .u64 0] 37)) = W from hW]
  refine H1.out.mono ?_
  rintro e w1 ⟨b, rfl, hc1, hg1⟩
  have hlt : w.heap.size < w1.heap.size := by have := hg1.size; omega
  have HG := Lib.hid hg1
  cases b
  · have H2 := Lib.hid (any1_any w1 w.heap.size 2 w.heap.size hc1 (by omega))
    clear hc1 hg1 hW
    go_wp2_with fail
    refine H2.out.mono ?_
    rintro e w2 ⟨s, hs, rfl, hc2, hg2⟩
    have HZ := Lib.hid (texts9_size s hs)
    have HF := Lib.hid (HB.out _ (grownBy_tr HG.out hg2))
    clear hs hc2 hg2
    go_wp2
    go_ret
    exact ⟨s, Nat.le_trans HZ.out (by omega), rfl, HF.out⟩
  · have H2 := Lib.hid (pick_any 10 w1 w.heap.size 2 w.heap.size hc1 (by omega) (by omega) (by omega))
    clear hc1 hg1 hW
    go_wp2_with fail
    refine H2.out.mono ?_
    rintro e w2 ⟨r, rfl, hr0, hr1, hc2, hg2⟩
    obtain ⟨p, rfl⟩ := Int.eq_ofNat_of_zero_le hr0
    have hp : p < 10 := by omega
    obtain ⟨s, hs, hcv⟩ := conv_made w2 (3990 + p)
    have hmk := made_run w2 p (by omega)
    obtain ⟨V, hV⟩ : ∃ V, w2.alloc (.cells (madeCells #[.int .u8 0] (3990 + p)) 5) = V := ⟨_, rfl⟩
    have HF := Lib.hid (HB.out _ (grownBy_tr (grownBy_tr HG.out hg2) (World.grownBy_alloc w2 (.cells (madeCells #[.int .u8 0] (3990 + p)) 5) _)))
    rw [hV] at hcv hmk HF
    have hsz : s.size ≤ 4100 := by omega
    have HZ := Lib.hid hsz
    clear hc2 hg2 hV hs hsz
    go_wp2
    go_ret
    exact ⟨s, HZ.out, rfl, HF.out⟩

set_option maxHeartbeats 1000000 in
theorem vAt_any (A : Option Addr) (n c : Nat) (i : Nat) (w : World) (h : CodeIs w A n) (hn : n ≤ 65536) (hi : i ≤ 100) :
    Calls Tryd.prog 19 #[.slice A n c, .int .i64 i] w fun e w' => ∃ r : Int, e = .returned (.int .i64 r) ∧ 0 ≤ r ∧ r ≤ 255 ∧ Drew w w' := by
  obtain ⟨xs, hnn, hR, hxs⟩ := h
  by_cases hlt : i < n
  · have htl : decide ((i : Int) < (n : Int)) = true := by simp; omega
    obtain ⟨x, hx⟩ := at_lt xs (k := i) (by omega)
    obtain ⟨b, off, rfl, hbb, hcx⟩ := hR.at_ (map_at (f := Value.int .u8) hx)
    obtain ⟨hx0, hx1⟩ := hxs x (List.mem_of_getElem? hx)
    clear hR hxs hx hnn
    go_enter Tryd.func19, Tryd.ntmps19
    go_wp2
    go_ret
    exact ⟨_, rfl, by omega, by omega, Drew.refl _⟩
  · have htl : decide ((i : Int) < (n : Int)) = false := by simp; omega
    clear hR hxs hnn
    go_enter Tryd.func19, Tryd.ntmps19
    go_wp2
    go_ret
    exact ⟨_, rfl, by omega, by omega, Drew.refl _⟩
end Go.Proofs.YtofcnabpfdnohaaDoor
