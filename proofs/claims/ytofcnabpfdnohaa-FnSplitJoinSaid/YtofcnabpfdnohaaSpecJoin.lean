/- The contract of spec.JoinStrings. -/
import Derived.Test.YtofcnabpfdnohaaStands
import Derived.Deep.QuietTactic
import Derived.BigQuiet
namespace Go.Proofs.Ytofcnabpfdnohaa
open Go.RowKit
set_option linter.unusedVariables false


set_option maxHeartbeats 400000 in
theorem specJoin_bad (l : List ByteArray) (A : Option Addr) (c : Nat) (sep : ByteArray) (w : World) (hl : l.length ≤ maxLen) (hs : sep.size ≤ maxLen) (h : sep.size ≠ 1 ∨ l.length = 0) :
    Calls Try.prog 13 #[.slice A l.length c, .string sep] w fun e w' => e = .returned (.tuple #[.string ⟨#[]⟩, .bool false]) ∧ w = w' := by
  unfold maxLen at hl hs
  by_cases h1 : sep.size = 1
  · have h2 : l.length = 0 := by omega
    have t1 : ((sep.size : Int) != 1) = false := by rw [h1]; rfl
    have t2 : ((l.length : Int) == 0) = true := by rw [h2]; rfl
    have H := Lib.hid h2
    have H1 := Lib.hid h1
    clear h2 h h1
    go_enter Try.func13, Try.ntmps13
    go_wp2
    go_ret2
    exact ⟨rfl, rfl⟩
  · have t1 : ((sep.size : Int) != 1) = true := by rw [bne_iff_ne]; omega
    clear h h1
    go_enter Try.func13, Try.ntmps13
    go_wp2
    go_ret2
    exact ⟨rfl, rfl⟩


set_option maxHeartbeats 1000000 in
theorem specJoin_at (l : List ByteArray) (A : Option Addr) (c B : Nat) (b : UInt8) (w : World) (h : Rd w B A (l.map .string)) (hl : l.length ≤ maxLen) (hs : ∀ s ∈ l, s.size ≤ 1048576) (hne : 0 < l.length) :
    Calls Try.prog 13 #[.slice A l.length c, .string ⟨#[b]⟩] w fun e w' => e = .returned (.tuple #[.string (joinStr b (l.map (·.data.toList))), .bool (canJ b 4001 (l.map (·.data.toList)))]) ∧ Drew w w' := by
  unfold maxLen at hl
  have t2 : ((l.length : Int) == 0) = false := by rw [beq_eq_false_iff_ne]; omega
  have hLne : (l.map (·.data.toList)) ≠ [] := by
    intro e; rw [List.map_eq_nil_iff] at e; rw [e] at hne; exact absurd hne (by simp)
  have HNo : Hid (joinTo b 0 [] (l.map (·.data.toList)) = none → canJ b 4001 (l.map (·.data.toList)) = false ∧ joinStr b (l.map (·.data.toList)) = ⟨#[]⟩) :=
    fun e => ⟨fin_none hLne e, joinStr_no (fin_none hLne e)⟩
  have HYes : Hid (∀ o : ByteArray, joinTo b 0 [] (l.map (·.data.toList)) = some o.data.toList → canJ b 4001 (l.map (·.data.toList)) = true ∧ joinStr b (l.map (·.data.toList)) = o) :=
    fun o e => ⟨(fin_some hLne e).1, by rw [joinStr_yes (fin_some hLne e).1, (fin_some hLne e).2, mk_list]⟩
  clear hLne
  go_enter Try.func13, Try.ntmps13
  go_wp2
  go_loopw [6, 7] (fun t6 t7 wr => ∃ (k : Nat) (o : ByteArray), k ≤ l.length ∧ t7 = .int .i64 k ∧ t6 = .string o ∧ o.size ≤ 4000 ∧ Hid (joinTo b k o.data.toList ((l.map (·.data.toList)).drop k) = joinTo b 0 [] (l.map (·.data.toList))) ∧ Drew w wr) (fun _ t7 _ => l.length - (intOf t7).toNat)
  case atStart => exact ⟨0, _, Nat.zero_le _, rfl, rfl, Nat.zero_le _, rfl, Drew.refl _⟩
  case round =>
    obtain ⟨k, o, hk, rfl, rfl, ho, HC, hdr⟩ := hrel
    by_cases hlt : k < l.length
    · obtain ⟨s, hsk⟩ := at_lt l (k := k) (by omega)
      obtain ⟨b1, o1, rfl, _, hc1⟩ := (h.drawn hdr).at_ (map_at (f := .string) hsk)
      have hsz := hs s (List.mem_of_getElem? hsk)
      have hd : (l.map (·.data.toList)).drop k = s.data.toList :: (l.map (·.data.toList)).drop (k + 1) := drop_at (by rw [List.getElem?_map, hsk]; rfl)
      have l1 := data_len s
      have l2 := data_len o
      have H1 : Hid (hasB s.data.toList b = true → canJ b 4001 (l.map (·.data.toList)) = false ∧ joinStr b (l.map (·.data.toList)) = ⟨#[]⟩) := by
        intro hy
        exact HNo.out (by rw [← HC.out, hd]; exact joinTo_has hy)
      have H2 : Hid (hasB s.data.toList b = false → 0 < k → 4000 < (o.size : Int) + 1 + s.size → canJ b 4001 (l.map (·.data.toList)) = false ∧ joinStr b (l.map (·.data.toList)) = ⟨#[]⟩) := by
        intro hy hp hL
        exact HNo.out (by rw [← HC.out, hd]; exact joinTo_long hy (by rw [if_pos hp]; simp only [List.length_append, List.length_cons, List.length_nil]; omega))
      have H3 : Hid (hasB s.data.toList b = false → ¬ 0 < k → 4000 < (o.size : Int) + s.size → canJ b 4001 (l.map (·.data.toList)) = false ∧ joinStr b (l.map (·.data.toList)) = ⟨#[]⟩) := by
        intro hy hp hL
        exact HNo.out (by rw [← HC.out, hd]; exact joinTo_long hy (by rw [if_neg hp]; simp only [List.length_append]; omega))
      have H4 : Hid (hasB s.data.toList b = false → 0 < k → (o.size : Int) + 1 + s.size ≤ 4000 → joinTo b (k + 1) (o ++ ⟨#[b]⟩ ++ s).data.toList ((l.map (·.data.toList)).drop (k + 1)) = joinTo b 0 [] (l.map (·.data.toList))) := by
        intro hy hp hL
        rw [← HC.out, hd, joinTo_step hy (by rw [if_pos hp]; simp only [List.length_append, List.length_cons, List.length_nil]; omega), if_pos hp, data_append, data_append]
      have H5 : Hid (hasB s.data.toList b = false → ¬ 0 < k → (o.size : Int) + s.size ≤ 4000 → joinTo b (k + 1) (o ++ s).data.toList ((l.map (·.data.toList)).drop (k + 1)) = joinTo b 0 [] (l.map (·.data.toList))) := by
        intro hy hp hL
        rw [← HC.out, hd, joinTo_step hy (by rw [if_neg hp]; simp only [List.length_append]; omega), if_neg hp, data_append]
      have HD := Lib.hid hdr
      clear h hs hsk hd l1 l2 hdr
      go_wp2
      go_quiet ((go_at_call 32; exact Calls.quiet_of_same (l1Stands_q _ _ _ (by unfold maxLen; omega))))
      go_wp2
      · have hy : hasB s.data.toList b = true := by assumption
        go_ret2
        exact ⟨by rw [(H1.out hy).1, (H1.out hy).2]; rfl, HD.out.step _⟩
      · have hy : hasB s.data.toList b = false := by assumption
        have hx := H2.out hy (by assumption) (by assumption)
        go_ret2
        exact ⟨by rw [hx.1, hx.2]; rfl, HD.out.step _⟩
      · have hy : hasB s.data.toList b = false := by assumption
        have hlen : (o.size : Int) + 1 + s.size ≤ 4000 := by assumption
        have hx := H4.out hy (by assumption) hlen
        go_roundw
        case rel => exact ⟨k + 1, _, by omega, by go_num, rfl, by simp only [ByteArray.size_append]; show o.size + 1 + s.size ≤ 4000; omega, hx, HD.out.step _⟩
        case measure => simp [intOf]; omega
      · have hy : hasB s.data.toList b = false := by assumption
        have hx := H3.out hy (by assumption) (by assumption)
        go_ret2
        exact ⟨by rw [hx.1, hx.2]; rfl, HD.out.step _⟩
      · have hy : hasB s.data.toList b = false := by assumption
        have hlen : (o.size : Int) + s.size ≤ 4000 := by assumption
        have hx := H5.out hy (by assumption) hlen
        go_roundw
        case rel => exact ⟨k + 1, _, by omega, by go_num, rfl, by simp only [ByteArray.size_append]; omega, hx, HD.out.step _⟩
        case measure => simp [intOf]; omega
    · have HF := Lib.hid (HYes.out o (by rw [← HC.out, List.drop_eq_nil_of_le (by simp; omega)]; rfl))
      have HD := Lib.hid hdr
      clear h hs hdr
      go_wp2
      go_ret2
      exact ⟨by rw [HF.out.1, HF.out.2]; rfl, HD.out⟩
end Go.Proofs.Ytofcnabpfdnohaa
