/- The contracts of spec.l1Num, spec.FormatInt, impl.FormatInt. -/
import Derived.Test.YtolfmoniedgmeaaDoorProg
import Derived.Test.YtolfmoniedgmeaaDoorMem
import Derived.Test.YtolfmoniedgmeaaDoorShelf
import Derived.Test.YtolfmoniedgmeaaDoorPlain
import Derived.WalkSpells
import Derived.WalkLawsBesides
import Derived.Deep.QuietTactic
import Derived.BigQuiet
import Derived.Outline
import Derived.IntWalk
import Derived.Lib.ItoaMem
import Derived.Lib.ItoaLen
namespace Go.Proofs.YtolfmoniedgmeaaDoor
open Go.RowKit
set_option linter.unusedVariables false

def digitStr : ByteArray := ⟨#[48, 49, 50, 51, 52, 53, 54, 55, 56, 57]⟩
theorem digit_nat : ∀ d : Nat, d < 10 → digitStr.extract d (d + 1) = ⟨#[UInt8.ofNat (48 + d)]⟩
  | 0, _ | 1, _ | 2, _ | 3, _ | 4, _ | 5, _ | 6, _ | 7, _ | 8, _ | 9, _ => by decide +kernel
  | d + 10, h => absurd h (by omega)
theorem digit_at (d : Int) (h0 : 0 ≤ d) (h1 : d < 10) : digitStr.extract d.toNat (d + 1).toNat = ⟨[UInt8.ofNat (48 + d.toNat)].toArray⟩ := by
  rw [show (d + 1).toNat = d.toNat + 1 from by omega, digit_nat d.toNat (by omega)]
theorem itoa_pos {n : Int} (h : 0 ≤ n) : Lib.itoa n = Lib.decDigits n.toNat := by unfold Lib.itoa; rw [if_neg (by omega)]
theorem itoa_negative {n : Int} (h : n < 0) : Lib.itoa n = 45 :: Lib.decDigits (-n).toNat := by unfold Lib.itoa; rw [if_pos h]; congr 2; omega

theorem dig_len (q : Int) (h0 : 0 ≤ q) (h1 : q ≤ 999999999) : (Lib.decDigits q.toNat).length ≤ 21 := by
  rw [← itoa_pos h0]; exact Lib.itoa_length_le q (by omega) (by omega)

set_option maxHeartbeats 400000 in
theorem l1Num_pos (k : Nat) : ∀ (n : Int) (w : World), 0 ≤ n → n < k → n ≤ 999999999 →
    Calls Tryd.prog 28 #[.int .i64 n] w fun e w' => e = .returned (.string ⟨(Lib.decDigits n.toNat).toArray⟩) ∧ Drew w w' := by
  induction k with
  | zero => intro n w h0 h1 _; exact absurd h1 (by omega)
  | succ k ih =>
    intro n w h0 h1 h2
    by_cases hs : n < 10
    · go_enter Tryd.func28, Tryd.ntmps28
      go_wp2_with fail
      go_ret
      exact ⟨ret_str (by rw [show (⟨#[48, 49, 50, 51, 52, 53, 54, 55, 56, 57]⟩ : ByteArray) = digitStr from rfl, digit_at n h0 hs, Lib.decDigits, dif_pos (by omega)]), Drew.refl _⟩
    · have IH := Lib.hid ih
      clear ih
      obtain ⟨q, hq⟩ : ∃ q, n / 10 = q := ⟨_, rfl⟩
      obtain ⟨d, hd⟩ : ∃ d, n % 10 = d := ⟨_, rfl⟩
      have hq0 : 0 ≤ q := by omega
      have hq1 : q < k := by omega
      have hq2 : q ≤ 999999999 := by omega
      have hd0 : 0 ≤ d := by omega
      have hd1 : d < 10 := by omega
      have HE : Hid ((⟨(Lib.decDigits n.toNat).toArray⟩ : ByteArray) = ⟨(Lib.decDigits q.toNat).toArray⟩ ++ digitStr.extract d.toNat (d + 1).toNat) := by
        rw [digit_at d hd0 hd1, Lib.decDigits, dif_neg (by omega), show n.toNat / 10 = q.toNat from by omega, show n.toNat % 10 = d.toNat from by omega, mk_app]; exact rfl
      have e1 : IntKind.i64.wrap (n.tdiv 10) = q := by rw [Int.tdiv_eq_ediv_of_nonneg h0, hq]; exact IntWalk.i64_in _ (by omega)
      have e3 : IntKind.i64.wrap (d + 1) = d + 1 := IntWalk.i64_in _ (by omega)
      have e4 : ∀ wx : World, (Instr.slice 9 (.string ⟨#[48, 49, 50, 51, 52, 53, 54, 55, 56, 57]⟩) (some (.int .i64 d)) (some (.int .i64 (d + 1))) none).run Tryd.prog wx = .ok (.string (digitStr.extract d.toNat (d + 1).toNat)) wx := fun wx => run_slice_string wx 9 digitStr .i64 .i64 d (d + 1) Tryd.underlying9 hd0 (by omega) (by show d + 1 ≤ 10; omega)
      have e5 : ∀ wx : World, (Op.stringOp .add ⟨(Lib.decDigits q.toNat).toArray⟩ (digitStr.extract d.toNat (d + 1).toNat)).run Tryd.prog wx = .ok (.string (⟨(Lib.decDigits q.toNat).toArray⟩ ++ digitStr.extract d.toNat (d + 1).toNat)) wx := fun wx => run_string_add_sum wx _ _ (by rw [digit_at d hd0 hd1, size_mk, size_mk]; have := dig_len q hq0 hq2; simp only [List.length_cons, List.length_nil]; omega)
      have e2 : n.tmod 10 = d := by rw [Int.tmod_eq_emod_of_nonneg h0, hd]
      clear hq hd
      go_enter Tryd.func28, Tryd.ntmps28
      go_wp2_with fail
      go_quiet ((go_at_call 28; exact Calls.quiet_of (IH.out _ _ hq0 hq1 hq2)))
      clear e1 e2 e3 e4 e5
      go_wp2_with fail
      go_ret
      exact ⟨ret_str HE.out.symm, _, rfl⟩


set_option maxHeartbeats 400000 in
theorem l1Num_any (n : Int) (w : World) (h0 : -999999999 ≤ n) (h1 : n ≤ 999999999) :
    Calls Tryd.prog 28 #[.int .i64 n] w fun e w' => e = .returned (.string ⟨(Lib.itoa n).toArray⟩) ∧ Drew w w' := by
  by_cases hn : n < 0
  · rw [itoa_negative hn]
    have H := Lib.hid (fun wx => l1Num_pos 1000000000 (-n) wx (by omega) (by omega) (by omega))
    have e1 : Hid ((⟨#[45]⟩ : ByteArray) ++ ⟨(Lib.decDigits (-n).toNat).toArray⟩ = ⟨(45 :: Lib.decDigits (-n).toNat).toArray⟩) := mk_app [45] _
    have e2 : ∀ wx : World, (Op.stringOp .add ⟨#[45]⟩ ⟨(Lib.decDigits (-n).toNat).toArray⟩).run Tryd.prog wx = .ok (.string (⟨#[45]⟩ ++ ⟨(Lib.decDigits (-n).toNat).toArray⟩)) wx := fun wx => run_string_add_sum wx _ _ (by rw [show (⟨#[45]⟩ : ByteArray).size = 1 from rfl, size_mk]; have := dig_len (-n) (by omega) (by omega); omega)
    go_enter Tryd.func28, Tryd.ntmps28
    go_wp2_with (go_at_call 28; refine (H.out _).mono ?_; rintro e w' ⟨rfl, hd⟩)
    go_ret
    exact ⟨ret_str e1.out, hd⟩
  · rw [itoa_pos (by omega)]
    exact l1Num_pos 1000000000 n w (by omega) (by omega) h1

set_option maxHeartbeats 400000 in
theorem l1In_yes (x a b : Int) (w : World) (h1 : a ≤ x) (h2 : x ≤ b) :
    Calls Tryd.prog 35 #[.int .i64 x, .int .i64 a, .int .i64 b] w fun e w' => e = .returned (.bool true) ∧ w = w' := by
  have t1 : decide (a ≤ x) = true := by simpa using h1
  have t2 : decide (x ≤ b) = true := by simpa using h2
  clear h1 h2
  go_enter Tryd.func35, Tryd.ntmps35
  go_wp2
  go_ret
  exact ⟨rfl, rfl⟩
set_option maxHeartbeats 400000 in
theorem l1In_no (x a b : Int) (w : World) (h : x < a ∨ b < x) :
    Calls Tryd.prog 35 #[.int .i64 x, .int .i64 a, .int .i64 b] w fun e w' => e = .returned (.bool false) ∧ w = w' := by
  by_cases h1 : a ≤ x
  · have t1 : decide (a ≤ x) = true := by simpa using h1
    have t2 : decide (x ≤ b) = false := by simp; omega
    clear h1 h
    go_enter Tryd.func35, Tryd.ntmps35
    go_wp2
    go_ret
    exact ⟨rfl, rfl⟩
  · have t1 : decide (a ≤ x) = false := by simpa using h1
    clear h1 h
    go_enter Tryd.func35, Tryd.ntmps35
    go_wp2
    go_ret
    exact ⟨rfl, rfl⟩

/-- What FormatInt returns. -/
def fmtStr (n : Int) : ByteArray := if -999999 ≤ n ∧ n ≤ 999999 then ⟨(Lib.itoa n).toArray⟩ else ⟨#[]⟩
def fmtOk (n : Int) : Bool := decide (-999999 ≤ n ∧ n ≤ 999999)

theorem tab_drew {w wx : World} (hx : Drew w wx) {P : Program} {n : String} {k : IntKind} {zs : List Int} (h : Lib.TabIs P w n k zs) : Lib.TabIs P wx n k zs := by
  obtain ⟨m, rfl⟩ := hx; exact h

theorem tab_below {P : Program} {w wx : World} {n : String} {k : IntKind} {zs : List Int} (hx : Below w.heap.size w wx) (h : Lib.TabIs P w n k zs) : Lib.TabIs P wx n k zs := by
  unfold Lib.TabIs World.var? at h ⊢
  cases hg : P.globalNamed n with
  | none => rw [hg] at h; cases h
  | some g =>
    rw [hg] at h
    simp only [Option.bind_some] at h ⊢
    have hlt : g < w.heap.size := by
      rcases Nat.lt_or_ge g w.heap.size with h1 | h1
      · exact h1
      · rw [Array.getElem?_eq_none h1] at h; cases h
    rw [hx.block g hlt]
    exact h

theorem below_grow (B : Nat) (w : World) (k : Nat) (os : Array Obj) (h : B ≤ w.heap.size) : Below B w (Sort.grow (w.drewN k) os) := by
  refine ⟨rfl, rfl, rfl, ?_, fun j hj => ?_⟩
  · simp [Sort.grow]
  · simp only [Sort.grow]
    rw [Array.getElem?_append_left (by show j < w.heap.size; omega)]
    rfl

set_option maxHeartbeats 400000 in
theorem implFormat_any (n : Int) (w : World) (hn : (Lit.int .i64 n).wf = true) (htab : Lib.TabIs Tryd.prog w "internal/strconv.uint64pow10" .u64 Lib.pow10Tab) :
    Calls Tryd.prog 39 #[.int .i64 n] w fun e w' => e = .returned (.tuple #[.string (fmtStr n), .bool (fmtOk n)]) ∧ Below w.heap.size w w' := by
  by_cases h : -999999 ≤ n ∧ n ≤ 999999
  · have e1 : fmtStr n = ⟨(Lib.itoa n).toArray⟩ := by unfold fmtStr; rw [if_pos h]
    have e2 : fmtOk n = true := by unfold fmtOk; simpa using h
    rw [e1, e2]
    obtain ⟨h1, h2⟩ := h
    have H := Lib.hid (Tryd.strconv_Itoa n (by omega) (by omega) w htab)
    clear e1 e2 htab
    go_enter Tryd.func39, Tryd.ntmps39
    go_wp2_with (go_at_call 45; refine H.out.mono ?_; rintro e w' ⟨rfl, k, os, rfl⟩)
    go_ret2
    exact ⟨rfl, below_grow _ _ _ _ (Nat.le_refl _)⟩
  · have e1 : fmtStr n = ⟨#[]⟩ := by unfold fmtStr; rw [if_neg h]
    have e2 : fmtOk n = false := by unfold fmtOk; simpa using h
    rw [e1, e2]
    clear e1 e2 htab
    by_cases h1 : n < -999999
    · clear h
      go_enter Tryd.func39, Tryd.ntmps39
      go_wp2
      go_ret2
      exact ⟨rfl, Below.refl _ _⟩
    · have h2 : 999999 < n := by omega
      clear h
      go_enter Tryd.func39, Tryd.ntmps39
      go_wp2
      go_ret2
      exact ⟨rfl, Below.refl _ _⟩
end Go.Proofs.YtolfmoniedgmeaaDoor
