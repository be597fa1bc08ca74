/- What the draws of texts may be: any1, of, one. -/
import Derived.Test.YtofcnabpfdnohaaDoorCur
import Derived.Test.YtofcnabpfdnohaaDoorPlain
namespace Go.Proofs.YtofcnabpfdnohaaDoor
open Go.RowKit
set_option linter.unusedVariables false

def texts9 : List ByteArray := [⟨#[]⟩, ⟨#[97]⟩, ⟨#[97, 44, 98]⟩, ⟨#[115, 111, 109, 101, 32, 119, 111, 114, 100, 115]⟩, ⟨#[120, 35, 121]⟩, ⟨#[45, 49, 50]⟩, ⟨#[0, 255]⟩, ⟨#[44, 44]⟩, ⟨#[48]⟩]

/-- One of these texts; at most k choices more have been read. -/
def OfPost (l : List ByteArray) (w : World) (B m n0 k : Nat) (e : Ending) (w' : World) : Prop :=
  ∃ s : ByteArray, s ∈ l ∧ e = .returned (.string s) ∧ CurIs w' B (m + k) n0 ∧ w.grownBy w' (some B)

set_option maxHeartbeats 1000000 in
theorem of_any (l : List ByteArray) (g c : Nat) (w : World) (B m n0 : Nat) (h : CurIs w B m n0) (hm : m ≤ 900000000) (hl1 : 1 < l.length) (hl2 : l.length ≤ 1000) (hg : g ≠ B) (hgl : g < w.heap.size)
    (hc : ∀ (k : Nat) (s : ByteArray), l[k]? = some s → w.cell? ⟨g, k, none⟩ = some (.string s)) :
    Calls Tryd.prog 27 #[.pointer (some ⟨B, 0, none⟩), .slice (some ⟨g, 0, none⟩) l.length c] w (OfPost l w B m n0 2) := by
  have HP := Lib.hid (pick_any l.length w B m n0 h hm (by omega) (by omega))
  have HC := Lib.hid hc
  obtain ⟨n, hn⟩ : ∃ n, l.length = n := ⟨_, rfl⟩
  rw [hn] at hl1 hl2 HP ⊢
  have HN := Lib.hid hn
  clear h hc hn
  go_enter Tryd.func27, Tryd.ntmps27
  go_wp2_with fail
  refine HP.out.mono ?_
  rintro e w1 ⟨r, rfl, hr0, hr1, hc1, hg1⟩
  obtain ⟨k, rfl⟩ := Int.eq_ofNat_of_zero_le hr0
  obtain ⟨s, hs⟩ := at_lt l (k := k) (by have := HN.out; omega)
  have hcell : w1.cell? ⟨g, k, none⟩ = some (.string s) := by
    rw [World.cell?_of_block (hg1.block g hgl (fun e => hg (by cases e; rfl)))]
    exact HC.out k s hs
  have hmem := List.mem_of_getElem? hs
  have HM := Lib.hid hmem
  have H1 := Lib.hid hc1
  have hk1 : k < n := by omega
  clear hs hmem hc1 hr0 hr1
  go_wp2
  go_ret
  exact ⟨s, HM.out, rfl, H1.out, hg1⟩

set_option maxHeartbeats 1000000 in
theorem any1_any (w : World) (B m n0 : Nat) (h : CurIs w B m n0) (hm : m ≤ 900000000) :
    Calls Tryd.prog 30 #[.pointer (some ⟨B, 0, none⟩)] w (OfPost texts9 w B m n0 2) := by
  obtain ⟨W, hW⟩ : ∃ W, w.alloc (.cells (texts9.map Value.string).toArray 9) = W := ⟨_, rfl⟩
  have hBlt : B < w.heap.size := by obtain ⟨A, c, at_, seed, xs, h1, _⟩ := h; exact (Array.getElem?_eq_some_iff.1 h1).1
  have hga : w.grownBy W (some B) := by rw [← hW]; exact World.grownBy_alloc w _ _
  have hcur : CurIs W B m n0 := h.kept (row := none) (by rw [← hW]; exact World.grownBy_alloc w _ _) (by simp) (fun _ e => by cases e)
  have hO := of_any texts9 w.heap.size 9 W B m n0 hcur hm (by decide) (by decide) (by omega) (by rw [← hW]; simp) (fun k s hs => by
    rw [← hW, cell_of_row _ _ k _ 9 (0, 0) (heap_alloc_new w _)]
    simp only [List.getElem?_toArray]
    exact map_at hs)
  have HO := Lib.hid hO
  clear hO hcur h
  go_enter Tryd.func30, Tryd.ntmps30
  go_wp2_with fail
  rw [show (w.alloc (.cells #[.string ⟨#[]⟩, .string ⟨#[97]⟩, .string ⟨#[97, 44, 98]⟩, .string ⟨#[115, 111, 109, 101, 32, 119, 111, 114, 100, 115]⟩, .string ⟨#[120, 35, 121]⟩, .string ⟨#[45, 49, 50]⟩, .string ⟨#[0, 255]⟩, .string ⟨#[44, 44]⟩, .string ⟨#[48]⟩] 9)) = W from hW]
  refine HO.out.mono ?_
  rintro e w1 ⟨s, hs, rfl, hc1, hg1⟩
  have HS := Lib.hid hs
  have H1 := Lib.hid hc1
  have HG := Lib.hid (grownBy_tr hga hg1)
  clear hs hc1 hg1 hga hW
  go_wp2
  go_ret
  exact ⟨s, HS.out, rfl, H1.out, HG.out⟩
end Go.Proofs.YtofcnabpfdnohaaDoor
