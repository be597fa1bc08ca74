/- The code of a law: its bytes, a cursor over it; make and conversion of bytes; vBig. -/
import Derived.Test.YtofcnabpfdnohaaDoorOf
import Derived.Test.YtofcnabpfdnohaaDoorShell
import Derived.Test.YtofcnabpfdnohaaDoorOpen
import Derived.ChangeSlices
import Derived.Laws.BytesArg
import Derived.Deep.OwnRows
import Derived.WalkKit
import Derived.WalkSpells
import Derived.WalkLawsBesides
namespace Go.Proofs.YtofcnabpfdnohaaDoor
open Go.RowKit Go.ChangeShapes
open Go.WideMaps Go.WideElems Go.WideShapes Go.ChangeAt
set_option linter.unusedVariables false

/-- The bytes of the code are there. -/
def CodeIs (w : World) (A : Option Addr) (n : Nat) : Prop :=
  ∃ xs : List Int, xs.length = n ∧ Rd w w.heap.size A (xs.map (Value.int .u8)) ∧ ∀ x ∈ xs, 0 ≤ x ∧ x ≤ 255
theorem CodeIs.below {w w' : World} {A : Option Addr} {n : Nat} (h : CodeIs w A n) (hb : Below w.heap.size w w') : CodeIs w' A n := by
  obtain ⟨xs, h1, h2, h3⟩ := h
  exact ⟨xs, h1, (h2.below hb).more hb.size, h3⟩

theorem cur_new {w : World} {A : Option Addr} {n c : Nat} (h : CodeIs w A n) (hn : n ≤ 70000) :
    CurIs (w.alloc (.cells #[.slice A n c, .int .i64 0, .int .u64 0] 37)) w.heap.size 0 w.heap.size := by
  obtain ⟨xs, rfl, hR, hxs⟩ := h
  refine ⟨A, c, 0, 0, xs, heap_alloc_new w _, Nat.le_refl _, hn, ?_, hxs, Nat.le_refl _⟩
  exact hR.below ((Below.refl _ _).alloc (Nat.le_refl _) _)
theorem cur_below {w w' : World} {b : Obj} (h : (w.alloc b).grownBy w' (some w.heap.size)) : Below w.heap.size w w' := by
  have h2 := grownBy_tr (World.grownBy_alloc w b (some w.heap.size)) h
  exact ⟨h2.os, h2.tape, h2.output, h2.size, fun k hk => h2.block k (by omega) (fun e => by cases e; omega)⟩

theorem one_any (n : Int) (w : World) (B m n0 : Nat) (h : CurIs w B m n0) (hm : m ≤ 900000000) (hn1 : 1 < n) (hn2 : n ≤ 1000000) :
    Calls Tryd.prog 26 #[.pointer (some ⟨B, 0, none⟩), .int .i64 n] w fun e w' => ∃ b : Bool, e = .returned (.bool b) ∧ CurIs w' B (m + 2) n0 ∧ w.grownBy w' (some B) := by
  have HP := Lib.hid (pick_any n w B m n0 h hm hn1 hn2)
  clear h
  go_enter Tryd.func26, Tryd.ntmps26
  go_wp2_with fail
  refine HP.out.mono ?_
  rintro e w1 ⟨r, rfl, hr0, hr1, hc1, hg1⟩
  have H1 := Lib.hid hc1
  have H2 := Lib.hid hg1
  clear hc1 hg1
  go_wp2
  go_ret
  exact ⟨_, rfl, H1.out, H2.out⟩

theorem texts9_size : ∀ s ∈ texts9, s.size ≤ 10 := by decide +kernel
theorem infoU8 : (Tryd.prog.info? 5).map (fun i => (i.zero, i.size, i.bytes)) = some (some (.int .u8 0), 1, 1) := by kernel_rfl

theorem conv_made (w : World) (n : Nat) : ∃ s : ByteArray, s.size = n ∧
    (convert 22 9 (.slice (some ⟨w.heap.size, 0, none⟩) n n)).run Tryd.prog (w.alloc (.cells (madeCells #[.int .u8 0] n) 5)) = .ok (.string s) (w.alloc (.cells (madeCells #[.int .u8 0] n) 5)) := by
  refine ⟨strOfNums (List.replicate n 0), by rw [strOfNums_size]; simp, ?_⟩
  refine run_convert_bytes_arg (P := Tryd.prog) _ 22 5 Tryd.underlying22 Tryd.underlying5 w.heap.size 0 n n (List.replicate n 0) (by simp) (fun i hi => ?_) 9 Tryd.underlying9
  rw [Nat.zero_add, cell_of_row _ _ i _ _ (0, 0) (heap_alloc_new w _), ← Array.getElem?_toList, toList_madeCells_one]
  simp [hi, List.getD_eq_getElem?_getD]

theorem made_run (w : World) (p : Nat) (hp : p < 20) :
    (Instr.makeSlice 22 (.int .i64 (3990 + (p : Int))) (.int .i64 (3990 + (p : Int)))).run Tryd.prog w = .ok (.slice (some ⟨w.heap.size, 0, none⟩) (3990 + p) (3990 + p)) (w.alloc (.cells (madeCells #[.int .u8 0] (3990 + p)) 5)) := by
  have h := run_make_row' (P := Tryd.prog) 22 5 (.int .u8 0) 1 Tryd.underlying22 infoU8 rfl .i64 .i64 (3990 + p) (by omega) (by omega) w
  rw [show (3990 + (p : Int)) = ((3990 + p : Nat) : Int) from by omega]
  exact h

theorem open_ints_rd {H : Type} {enc : TypeId × Value → H} {P : Program} {W : World} {base : Nat} {t e : TypeId} {k : IntKind} {v : Value} {d : DataW H} {ps : List MemPlace}
    (ht : P.underlying t = some (.slice e)) (he : P.underlying e = some (.int k)) (hc : P.cellsOf e = 1)
    (hval : Value.okWide P W .any base t v) (h : DataW.Trod enc P W 0 (fun _ => true) true t v d ps) :
    ∃ (A : Option Addr) (l : List Int) (c : Nat), v = .slice A l.length c ∧ Rd W W.heap.size A (l.map (Value.int k)) ∧ l.length ≤ c ∧ c ≤ maxLen ∧ ∀ n ∈ l, k.min ≤ n ∧ n ≤ k.max := by
  obtain ⟨a0, len, cap, rfl⟩ := okWide_slice ht hval
  obtain ⟨fuel, hf⟩ := h
  rcases Go.ChangeShapes.open_ints ht he hc hf with ⟨hcs, _⟩ | ⟨a, len', cap', zs, hcs, _, hl, hm, hz, _, hcell, hwf⟩
  · simp [Value.cells] at hcs
    obtain ⟨rfl, rfl, rfl⟩ := hcs
    exact ⟨none, [], 0, rfl, Rd.nil _ _ _, Nat.le_refl _, Nat.zero_le _, fun s hs => by cases hs⟩
  · simp [Value.cells] at hcs
    obtain ⟨rfl, rfl, rfl⟩ := hcs
    simp only [if_true] at hz
    have hlen : (zs.take len).length = len := by rw [List.length_take]; omega
    refine ⟨some a, zs.take len, cap, by rw [hlen], rd_of fun i u hu => ?_, by rw [hlen]; exact hl, hm, fun s hs => by
      have := hwf s (List.mem_of_mem_take hs)
      simpa [Lit.wf] using this⟩
    rw [List.getElem?_map, List.getElem?_take] at hu
    by_cases hi : i < len
    · rw [if_pos hi] at hu
      have hi2 : i < zs.length := by omega
      rw [hcell i hi2]
      rw [List.getElem?_eq_getElem hi2] at hu
      rw [List.getD_eq_getElem?_getD, List.getElem?_eq_getElem hi2]
      simpa using hu
    · rw [if_neg hi] at hu; cases hu

theorem vBig_any (A : Option Addr) (n c : Nat) (hn : n ≤ 65536) (w : World) :
    Calls Tryd.prog 8 #[.slice A n c] w fun e w' => e = .returned (.bool false) ∧ w = w' := by
  have t : decide ((65536 : Int) < (n : Int)) = false := by simp; omega
  go_enter Tryd.func8, Tryd.ntmps8
  go_wp2
  go_ret
  exact ⟨rfl, rfl⟩
theorem vBig_yes (A : Option Addr) (n c : Nat) (hn : 65536 < n) (hm : n ≤ maxLen) (w : World) :
    Calls Tryd.prog 8 #[.slice A n c] w fun e w' => e = .returned (.bool true) ∧ w = w' := by
  unfold maxLen at hm
  have t : decide ((65536 : Int) < (n : Int)) = true := by simp; omega
  go_enter Tryd.func8, Tryd.ntmps8
  go_wp2
  go_ret
  exact ⟨rfl, rfl⟩

end Go.Proofs.YtofcnabpfdnohaaDoor
