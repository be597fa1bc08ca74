/- The contracts of spec.l1Seal, spec.AppendChecksum, impl.AppendChecksum. -/
import Derived.Test.YtofcnabpfdnohaaDoorL1Sum
import Derived.Test.YtofcnabpfdnohaaDoorImplCk
import Derived.Test.YtofcnabpfdnohaaDoorNum
import Derived.Test.YtofcnabpfdnohaaDoorStands
import Derived.Test.YtofcnabpfdnohaaDoorImplJoin
import Derived.Laws.Concat
namespace Go.Proofs.YtofcnabpfdnohaaDoor
open Go.RowKit
set_option linter.unusedVariables false

/-- The digits of a checksum; what is checksummed. -/
def ckDigits (s : List UInt8) : List UInt8 := Lib.itoa (ck s)
def sealB (s : ByteArray) : ByteArray := s ++ ⟨#[35]⟩ ++ ⟨(ckDigits s.data.toList).toArray⟩
def appOk (s : ByteArray) : Bool := canJ 35 4001 [s.data.toList, ckDigits s.data.toList]
def appStr (s : ByteArray) : ByteArray := joinStr 35 [s.data.toList, ckDigits s.data.toList]

theorem digits_no (u : Nat) : ∀ c ∈ Lib.decDigits u, c ≠ 35 := by
  induction u using Nat.strongRecOn with
  | _ u ih =>
    intro c hc
    rw [Lib.decDigits] at hc
    have hd : ∀ d : Nat, d < 10 → UInt8.ofNat (48 + d) ≠ 35 := by
      intro d hd e
      have := congrArg UInt8.toNat e
      simp only [UInt8.toNat_ofNat'] at this
      have h35 : (35 : UInt8).toNat = 35 := rfl
      omega
    by_cases h : u < 10
    · rw [dif_pos h] at hc
      simp only [List.mem_singleton] at hc
      rw [hc]; exact hd u h
    · rw [dif_neg h] at hc
      rcases List.mem_append.1 hc with h1 | h1
      · exact ih (u / 10) (by omega) c h1
      · simp only [List.mem_singleton] at h1
        rw [h1]; exact hd (u % 10) (by omega)
theorem ckDigits_no (s : List UInt8) : hasB (ckDigits s) 35 = false := by
  obtain ⟨h0, _⟩ := ck_bd s
  refine hasB_no fun j c hj => ?_
  unfold ckDigits at hj
  rw [itoa_pos h0] at hj
  exact digits_no _ c (List.mem_of_getElem? hj)
theorem ckDigits_len (s : List UInt8) : (ckDigits s).length ≤ 21 := by
  obtain ⟨h0, h1⟩ := ck_bd s
  exact Lib.itoa_length_le _ (by omega) (by omega)
theorem seal_size (s : ByteArray) : (sealB s).size = s.size + 1 + (ckDigits s.data.toList).length := by
  unfold sealB
  rw [ByteArray.size_append, ByteArray.size_append, size_mk]; rfl
theorem seal_data (s : ByteArray) : (sealB s).data.toList = s.data.toList ++ [35] ++ ckDigits s.data.toList := by
  unfold sealB
  rw [data_append, data_append]
theorem app_long {s : ByteArray} (h : 4000 < s.size) : appOk s = false := canJ_full 35 4001 _ _ (by rw [data_len]; omega)
theorem app_has {s : ByteArray} (h : hasB s.data.toList 35 = true) : appOk s = false := canJ_has 35 4001 _ _ h
theorem app_big {s : ByteArray} (h : 4000 < (sealB s).size) : appOk s = false := by
  rw [seal_size] at h
  by_cases h1 : 4000 < s.size
  · exact app_long h1
  · cases hb : hasB s.data.toList 35 with
    | true => exact app_has hb
    | false =>
      unfold appOk
      rw [canJ_step 35 4001 _ _ (by rw [data_len]; omega) hb]
      exact canJ_full 35 _ _ _ (by rw [data_len]; omega)
theorem app_yes {s : ByteArray} (h1 : hasB s.data.toList 35 = false) (h : (sealB s).size ≤ 4000) : appOk s = true ∧ appStr s = sealB s := by
  rw [seal_size] at h
  have h2 : appOk s = true := by
    unfold appOk
    rw [canJ_step 35 4001 _ _ (by rw [data_len]; omega) h1, canJ_step 35 _ _ _ (by rw [data_len]; omega) (ckDigits_no _)]
    rfl
  refine ⟨h2, ?_⟩
  unfold appStr
  rw [joinStr_yes h2]
  rw [← mk_list (sealB s), seal_data, Lib.join_cons]
  simp [Lib.joinTail]
theorem app_no {s : ByteArray} (h : appOk s = false) : appStr s = ⟨#[]⟩ := joinStr_no h
theorem app_bound {s : ByteArray} (h : appOk s = true) : s.size ≤ 4000 ∧ hasB s.data.toList 35 = false ∧ (sealB s).size ≤ 4000 := by
  refine ⟨?_, ?_, ?_⟩
  · rcases Nat.lt_or_ge 4000 s.size with h1 | h1
    · rw [app_long h1] at h; cases h
    · exact h1
  · cases hb : hasB s.data.toList 35 with
    | true => rw [app_has hb] at h; cases h
    | false => rfl
  · rcases Nat.lt_or_ge 4000 (sealB s).size with h1 | h1
    · rw [app_big h1] at h; cases h
    · exact h1

set_option maxHeartbeats 400000 in
theorem l1Seal_any (s : ByteArray) (w : World) (hs : s.size ≤ 1048576) :
    Calls Tryd.prog 34 #[.string s] w fun e w' => e = .returned (.string (sealB s)) ∧ Drew w w' := by
  obtain ⟨hd1, hd2⟩ := ck_bd s.data.toList
  have HN := Lib.hid (fun wx => l1Num_any (ck s.data.toList) wx (by omega) (by omega))
  have hlen := ckDigits_len s.data.toList
  have e1 : ∀ wx : World, (Op.stringOp .add (s ++ ⟨#[35]⟩) ⟨(Lib.itoa (ck s.data.toList)).toArray⟩).run Tryd.prog wx = .ok (.string (sealB s)) wx := fun wx =>
    run_string_add_sum wx _ _ (by rw [ByteArray.size_append, size_mk]; show s.size + 1 + (ckDigits s.data.toList).length ≤ _; omega)
  clear hlen hd1 hd2
  go_enter Tryd.func34, Tryd.ntmps34
  go_wp2_with (first | (go_at_call 43; refine (l1Sum_any _ _ (by unfold maxLen; omega)).mono ?_; rintro e w' ⟨rfl, rfl⟩) | (go_at_call 25; refine (HN.out _).mono ?_; rintro e w' ⟨rfl, hd⟩))
  go_ret
  exact ⟨rfl, hd⟩

set_option maxHeartbeats 400000 in
theorem specAppend_any (s : ByteArray) (w : World) (hs : s.size ≤ 1048576) :
    Calls Tryd.prog 17 #[.string s] w fun e w' => e = .returned (.tuple #[.string (appStr s), .bool (appOk s)]) ∧ Drew w w' := by
  have HT := Lib.hid (fun wx => l1Stands_any s 35 wx (by unfold maxLen; omega))
  have HS := Lib.hid (fun wx => l1Seal_any s wx hs)
  by_cases h1 : 4000 < s.size
  · have e1 := app_long h1
    rw [app_no e1, e1]
    clear e1
    go_enter Tryd.func17, Tryd.ntmps17
    go_wp2
    go_ret2
    exact ⟨rfl, Drew.refl _⟩
  · cases hb : hasB s.data.toList 35 with
    | true =>
      have e1 := app_has hb
      rw [app_no e1, e1]
      have HB := Lib.hid (show ∀ wx, Calls Tryd.prog 33 #[.string s, .int .u8 35] wx fun e w' => e = .returned (.bool true) ∧ wx = w' from fun wx => by have := HT.out wx; rw [hb] at this; exact this)
      clear e1 hb
      go_enter Tryd.func17, Tryd.ntmps17
      go_wp2_with (go_at_call 33; refine (HB.out _).mono ?_; rintro e w' ⟨rfl, rfl⟩)
      go_ret2
      exact ⟨rfl, Drew.refl _⟩
    | false =>
      have HB := Lib.hid (show ∀ wx, Calls Tryd.prog 33 #[.string s, .int .u8 35] wx fun e w' => e = .returned (.bool false) ∧ wx = w' from fun wx => by have := HT.out wx; rw [hb] at this; exact this)
      by_cases h2 : 4000 < (sealB s).size
      · have e1 := app_big h2
        rw [app_no e1, e1]
        clear e1 hb
        go_enter Tryd.func17, Tryd.ntmps17
        go_wp2_with (first | (go_at_call 33; refine (HB.out _).mono ?_; rintro e w' ⟨rfl, rfl⟩) | (go_at_call 34; refine (HS.out _).mono ?_; rintro e w' ⟨rfl, hd⟩))
        go_ret2
        exact ⟨rfl, hd⟩
      · obtain ⟨e1, e2⟩ := app_yes hb (by omega)
        rw [e1, e2]
        clear e1 e2 hb
        go_enter Tryd.func17, Tryd.ntmps17
        go_wp2_with (first | (go_at_call 33; refine (HB.out _).mono ?_; rintro e w' ⟨rfl, rfl⟩) | (go_at_call 34; refine (HS.out _).mono ?_; rintro e w' ⟨rfl, hd⟩))
        go_ret2
        exact ⟨rfl, Drew.trans ‹Drew w _› hd⟩

theorem rd_new (w : World) (t : TypeId) (cs : List Value) : Rd (w.alloc (.cells cs.toArray t)) (w.alloc (.cells cs.toArray t)).heap.size (some ⟨w.heap.size, 0, none⟩) cs := by
  intro hl
  refine ⟨w.heap.size, 0, rfl, by simp, fun k u hu => ?_⟩
  rw [Nat.zero_add, cell_of_row _ _ k cs.toArray t (0, 0) (heap_alloc_new w _)]
  simpa using hu

set_option maxHeartbeats 400000 in
theorem implAppend_any (s : ByteArray) (w : World) (hs : s.size ≤ 1048576) (htab : Lib.TabIs Tryd.prog w "internal/strconv.uint64pow10" .u64 Lib.pow10Tab) :
    Calls Tryd.prog 16 #[.string s] w fun e w' => e = .returned (.tuple #[.string (appStr s), .bool (appOk s)]) ∧ Below w.heap.size w w' := by
  by_cases h1 : 4000 < s.size
  · have e1 := app_long h1
    have HC := Lib.hid (fun wx => implChecksum_no s wx (by unfold maxLen; omega) h1)
    rw [app_no e1, e1]
    clear e1 htab
    go_enter Tryd.func16, Tryd.ntmps16
    go_wp2_with (go_at_call 31; refine (HC.out _).mono ?_; rintro e w' ⟨rfl, rfl⟩)
    go_ret2
    exact ⟨rfl, Below.refl _ _⟩
  · obtain ⟨hd1, hd2⟩ := ck_bd s.data.toList
    have hlen := ckDigits_len s.data.toList
    have HC := Lib.hid (fun wx => implChecksum_ok s wx (by omega))
    have ef1 : fmtStr (ck s.data.toList) = ⟨(ckDigits s.data.toList).toArray⟩ := by unfold fmtStr; rw [if_pos ⟨by omega, by omega⟩]; rfl
    have ef2 : fmtOk (ck s.data.toList) = true := by unfold fmtOk; exact decide_eq_true ⟨by omega, by omega⟩
    have HF := implFormat_any (ck s.data.toList) w (WalkArith.wf_i64 (by omega)) htab
    rw [ef1, ef2] at HF
    have HF2 := Lib.hid HF
    have HJ : Hid (∀ wx : World, Calls Tryd.prog 32 #[.slice (some ⟨wx.heap.size, 0, none⟩) 2 2, .string ⟨#[35]⟩] (wx.alloc (.cells #[.string s, .string ⟨(ckDigits s.data.toList).toArray⟩] 9)) fun e w' =>
        e = .returned (.tuple #[.string (appStr s), .bool (appOk s)]) ∧ Below (wx.heap.size + 1) (wx.alloc (.cells #[.string s, .string ⟨(ckDigits s.data.toList).toArray⟩] 9)) w') := by
      intro wx
      have h := implJoin_at [s, ⟨(ckDigits s.data.toList).toArray⟩] (some ⟨wx.heap.size, 0, none⟩) 2 35 (wx.alloc (.cells #[.string s, .string ⟨(ckDigits s.data.toList).toArray⟩] 9)) (rd_new wx 9 [.string s, .string ⟨(ckDigits s.data.toList).toArray⟩]) (by simp) (by simp) (by
        intro x hx
        rcases List.mem_cons.1 hx with rfl | hx
        · exact hs
        · rw [List.mem_singleton] at hx
          rw [hx, size_mk]; omega) (by simp)
      have e2 : ([s, ⟨(ckDigits s.data.toList).toArray⟩] : List ByteArray).map (·.data.toList) = [s.data.toList, ckDigits s.data.toList] := by simp
      rw [e2] at h
      refine h.mono fun e w' ⟨h3, h4⟩ => ⟨h3, ?_⟩
      simpa using h4
    clear ef1 ef2 HF htab hlen hd1 hd2
    go_enter Tryd.func16, Tryd.ntmps16
    go_wp2_with (first | (go_at_call 31; refine (HC.out _).mono ?_; rintro e w' ⟨rfl, rfl⟩) | (go_at_call 10; refine HF2.out.mono ?_; rintro e w1 ⟨rfl, hb1⟩) | (go_at_call 32; refine (HJ.out _).mono ?_; rintro e w2 ⟨rfl, hb2⟩))
    go_ret2
    exact ⟨rfl, (hb1.alloc hb1.size _).trans (hb2.mono (by have := hb1.size; omega))⟩
end Go.Proofs.YtofcnabpfdnohaaDoor
