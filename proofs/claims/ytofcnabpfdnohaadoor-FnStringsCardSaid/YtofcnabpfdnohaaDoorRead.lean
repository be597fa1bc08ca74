/- The contract of spec.l1Read (and so of spec.ParseInt). -/
import Derived.Test.YtofcnabpfdnohaaDoorReadMath
import Derived.Test.YtofcnabpfdnohaaDoorNum
import Derived.LoopTactic
namespace Go.Proofs.YtofcnabpfdnohaaDoor
open Go.RowKit
set_option linter.unusedVariables false

/-- What is read: (v, ok) is what the text s stands for. -/
def ReadsAs (s : ByteArray) (v : Int) (ok : Bool) : Prop :=
  (∀ n : Int, -999999 ≤ n → n ≤ 999999 → (⟨(Lib.itoa n).toArray⟩ : ByteArray) = s → v = n ∧ ok = true) ∧
  ((∀ n : Int, -999999 ≤ n → n ≤ 999999 → (⟨(Lib.itoa n).toArray⟩ : ByteArray) ≠ s) → v = 0 ∧ ok = false)

theorem eq_itoa {s : ByteArray} {n : Int} (h : (⟨(Lib.itoa n).toArray⟩ : ByteArray) = s) : s.data.toList = Lib.itoa n := by rw [← h]

/-- The digits' text t of s, with its sign. -/
structure Cut (s t : ByteArray) (neg : Bool) : Prop where
  pos : ∀ n : Int, -999999 ≤ n → n ≤ 999999 → (⟨(Lib.itoa n).toArray⟩ : ByteArray) = s → t.data.toList = Lib.decDigits n.natAbs ∧ (neg = true ↔ n < 0)

theorem cut_neg {s : ByteArray} (h1 : 1 < s.size) (h2 : s.data.toList[0]? = some 45) : Cut s (s.extract 1 s.size) true := by
  refine ⟨fun n h0 hn he => ?_⟩
  have hd := eq_itoa he
  have ht : (s.extract 1 s.size).data.toList = s.data.toList.drop 1 := by
    have hl := data_len s
    simp only [ByteArray.data_extract, Array.toList_extract, List.extract_eq_take_drop]
    rw [List.take_of_length_le (by simp only [List.length_drop]; omega)]
  by_cases hneg : n < 0
  · refine ⟨?_, by simp [hneg]⟩
    rw [ht, hd, itoa_negative hneg, show n.natAbs = (-n).toNat from by omega]
    rfl
  · exfalso
    rw [hd, itoa_pos (by omega)] at h2
    cases hq : Lib.decDigits n.toNat with
    | nil => exact digits_ne _ hq
    | cons c r =>
      rw [hq] at h2
      simp only [List.getElem?_cons_zero, Option.some.injEq] at h2
      have := digit_first _ c r hq
      rw [h2] at this
      have h45 : (45 : UInt8).toNat = 45 := rfl
      omega
theorem cut_pos {s : ByteArray} (h : ¬ (1 < s.size ∧ s.data.toList[0]? = some 45)) : Cut s s false := by
  refine ⟨fun n h0 hn he => ?_⟩
  have hd := eq_itoa he
  by_cases hneg : n < 0
  · exfalso
    apply h
    rw [itoa_negative hneg] at hd
    refine ⟨?_, by rw [hd]; rfl⟩
    have hl := data_len s
    rw [hd] at hl
    cases hq : Lib.decDigits (-n).toNat with
    | nil => exact absurd hq (digits_ne _)
    | cons c r => rw [hq] at hl; simp at hl; omega
  · refine ⟨?_, by simp; omega⟩
    rw [hd, itoa_pos (by omega), show n.natAbs = n.toNat from by omega]

theorem read_bad {s t : ByteArray} {neg : Bool} {v : Int} {ok : Bool} (hc : Cut s t neg) (hr : ReadsAs s v ok) (h : ¬ (1 ≤ t.size ∧ t.size ≤ 6)) : v = 0 ∧ ok = false := by
  refine hr.2 fun n h0 h1 he => h ?_
  obtain ⟨ht, _⟩ := hc.pos n h0 h1 he
  have hl := data_len t
  rw [ht] at hl
  have h6 := digits_len6 n.natAbs (by omega)
  have hne := digits_ne n.natAbs
  cases hq : Lib.decDigits n.natAbs with
  | nil => exact absurd hq hne
  | cons c r => rw [hq] at hl h6; simp at hl h6; omega
theorem read_none {s t : ByteArray} {neg : Bool} {v : Int} {ok : Bool} (hc : Cut s t neg) (hr : ReadsAs s v ok) (h : Lib.decFrom 0 t.data.toList = none) : v = 0 ∧ ok = false := by
  refine hr.2 fun n h0 h1 he => ?_
  obtain ⟨ht, _⟩ := hc.pos n h0 h1 he
  rw [ht, decFrom_digits] at h
  cases h
theorem read_fin {s t : ByteArray} {neg : Bool} {v : Int} {ok : Bool} {u : Nat} {m : Int} (hc : Cut s t neg) (hr : ReadsAs s v ok) (h : Lib.decFrom 0 t.data.toList = some u) (hu : u ≤ 999999)
    (hm : m = if neg = true then -(u : Int) else u) :
    ((⟨(Lib.itoa m).toArray⟩ : ByteArray) = s → v = m ∧ ok = true) ∧ ((⟨(Lib.itoa m).toArray⟩ : ByteArray) ≠ s → v = 0 ∧ ok = false) := by
  refine ⟨fun he => hr.1 m ?_ ?_ he, fun hne => hr.2 fun n h0 h1 he => hne ?_⟩
  · rw [hm]; split <;> omega
  · rw [hm]; split <;> omega
  · obtain ⟨ht, hs⟩ := hc.pos n h0 h1 he
    rw [ht, decFrom_digits] at h
    have hun : n.natAbs = u := Option.some.inj h
    have : m = n := by
      rw [hm]
      cases neg with
      | true => have := hs.1 rfl; rw [if_pos rfl]; omega
      | false =>
        have : ¬ n < 0 := fun hlt => by have := hs.2 hlt; cases this
        rw [if_neg (by simp)]; omega
    rw [this]; exact he

set_option maxRecDepth 100000 in
set_option maxHeartbeats 2000000 in
theorem l1Read_neg (s : ByteArray) (w : World) (v : Int) (ok : Bool) (hs : s.size ≤ 1048576) (hr : ReadsAs s v ok) (h1 : 1 < s.size) (h2 : s.data.toList[0]? = some 45) :
    Calls Tryd.prog 29 #[.string s] w fun e w' => e = .returned (.tuple #[.int .i64 v, .bool ok]) ∧ Drew w w' := by
  have hcut := cut_neg h1 h2
  have hb0 : s[0] = 45 := by
    have := at_byte s 0 (by omega)
    rw [h2] at this
    exact (Option.some.inj this).symm
  have ht0 : ((s[0].toNat : Int) == 45) = true := by rw [hb0]; rfl
  clear hb0 h2
  have htl : (s.extract 1 s.size).size = s.size - 1 := by rw [ByteArray.size_extract]; omega
  obtain ⟨t, hts⟩ : ∃ t, s.extract 1 s.size = t := ⟨_, rfl⟩
  rw [hts] at hcut htl
  by_cases hbad : 1 ≤ t.size ∧ t.size ≤ 6
  · obtain ⟨b1, b2⟩ := hbad
    have HR := Lib.hid hr
    have HC := Lib.hid hcut
    clear hr hcut
    have hlt2 : t.size < s.size := by omega
    clear htl
    go_enter Tryd.func29, Tryd.ntmps29
    go_wp2_with (go_at_call 24; refine (l1In_yes _ _ _ _ (by omega) (by omega)).mono ?_; rintro e w' ⟨rfl, rfl⟩)
    go_loop [5, 6] (fun t5 t6 => ∃ (k u : Nat), k ≤ t.size ∧ t6 = .int .i64 k ∧ t5 = .int .i64 u ∧ u ≤ 999999 ∧ Hid (u < 10 ^ k) ∧ Hid (Lib.decFrom 0 (t.data.toList.take k) = some u)) (fun _ t6 => t.size - (intOf t6).toNat)
    case atStart => exact ⟨0, 0, Nat.zero_le _, rfl, rfl, by omega, by show 0 < 1; omega, rfl⟩
    case round =>
      obtain ⟨k, u, hk, rfl, rfl, hu, HP, HD⟩ := hrel
      by_cases hlt : k < t.size
      · have hat := at_byte t k hlt
        have hby : (t[k].toNat : Int) < 256 := by have := t[k].toNat_lt; omega
        by_cases hdig : 48 ≤ t[k].toNat ∧ t[k].toNat ≤ 57
        · have hdv : Lib.digitVal t[k] = some (t[k].toNat - 48) := by unfold Lib.digitVal; rw [if_pos hdig]
          have HD2 : Hid (Lib.decFrom 0 (t.data.toList.take (k + 1)) = some (u * 10 + (t[k].toNat - 48))) := by
            show _ = _
            rw [take_at hat, decFrom_snoc, HD.out, hdv]; rfl
          have hP2 : u * 10 + (t[k].toNat - 48) < 10 ^ (k + 1) := by
            have := HP.out
            rw [Nat.pow_succ]; omega
          have hle : u * 10 + (t[k].toNat - 48) ≤ 999999 := by
            have : 10 ^ (k + 1) ≤ 10 ^ 6 := Nat.pow_le_pow_right (by omega) (by omega)
            omega
          have HP2 := Lib.hid hP2
          obtain ⟨g1, g2⟩ := hdig
          have t1 : decide ((t[k].toNat : Int) < 48) = false := by simp; omega
          have t2 : decide (57 < (t[k].toNat : Int)) = false := by simp; omega
          clear hP2 hdv hat
          go_wp2
          go_round
          case rel => exact ⟨k + 1, u * 10 + (t[k].toNat - 48), by omega, by go_num, by congr 1; omega, hle, HP2, HD2⟩
          case measure => simp [intOf]; omega
        · have hdv : Lib.digitVal t[k] = none := by unfold Lib.digitVal; rw [if_neg hdig]
          obtain ⟨rfl, rfl⟩ := read_none HC.out HR.out (decFrom_bad _ 0 k _ hat hdv)
          clear hat hdv
          by_cases h48 : t[k].toNat < 48
          · have t1 : decide ((t[k].toNat : Int) < 48) = true := by simp; omega
            clear hdig h48
            go_wp2
            go_ret2
            exact ⟨rfl, Drew.refl _⟩
          · have t1 : decide ((t[k].toNat : Int) < 48) = false := by simp; omega
            have t2 : decide (57 < (t[k].toNat : Int)) = true := by simp; omega
            clear hdig h48
            go_wp2
            go_ret2
            exact ⟨rfl, Drew.refl _⟩
      · have hfull : Lib.decFrom 0 t.data.toList = some u := by
          have h := HD.out
          rw [List.take_of_length_le (by rw [data_len]; omega)] at h
          exact h
        have hfin := read_fin (m := -(u : Int)) HC.out HR.out hfull hu (by simp)
        have HN := Lib.hid (fun wx => l1Num_any (-(u : Int)) wx (by omega) (by omega))
        clear hfull
        by_cases he : (⟨(Lib.itoa (-(u : Int))).toArray⟩ : ByteArray) = s
        · obtain ⟨rfl, rfl⟩ := hfin.1 he
          have hq := lst_eq he
          clear hfin he HR
          go_wp2_with (go_at_call 25; refine (HN.out _).mono ?_; rintro e w' ⟨rfl, hd⟩)
          go_ret2
          exact ⟨rfl, hd⟩
        · obtain ⟨rfl, rfl⟩ := hfin.2 he
          have hq := lst_ne he
          clear hfin he HR
          go_wp2_with (go_at_call 25; refine (HN.out _).mono ?_; rintro e w' ⟨rfl, hd⟩)
          go_ret2
          exact ⟨rfl, hd⟩
  · obtain ⟨rfl, rfl⟩ := read_bad hcut hr hbad
    have hx : (t.size : Int) < 1 ∨ 6 < (t.size : Int) := by omega
    have HX := Lib.hid hx
    clear hbad hx hr hcut htl
    go_enter Tryd.func29, Tryd.ntmps29
    go_wp2_with (go_at_call 24; refine (l1In_no _ _ _ _ HX.out).mono ?_; rintro e w' ⟨rfl, rfl⟩)
    go_ret2
    exact ⟨rfl, Drew.refl _⟩

set_option maxRecDepth 100000 in
set_option maxHeartbeats 2000000 in
theorem l1Read_pos (s : ByteArray) (w : World) (v : Int) (ok : Bool) (hs : s.size ≤ 1048576) (hr : ReadsAs s v ok) (hcut : Cut s s false)
    (hp : decide (1 < (s.size : Int)) = false ∨ (∃ h : 0 < s.size, decide (1 < (s.size : Int)) = true ∧ ((s[0].toNat : Int) == 45) = false)) :
    Calls Tryd.prog 29 #[.string s] w fun e w' => e = .returned (.tuple #[.int .i64 v, .bool ok]) ∧ Drew w w' := by
  by_cases hbad : 1 ≤ s.size ∧ s.size ≤ 6
  · obtain ⟨b1, b2⟩ := hbad
    have HR := Lib.hid hr
    have HC := Lib.hid hcut
    clear hr hcut
    rcases hp with hp | ⟨h0, hp1, hp2⟩
    all_goals
      go_enter Tryd.func29, Tryd.ntmps29
      go_wp2_with (go_at_call 24; refine (l1In_yes _ _ _ _ (by omega) (by omega)).mono ?_; rintro e w' ⟨rfl, rfl⟩)
      go_loop [5, 6] (fun t5 t6 => ∃ (k u : Nat), k ≤ s.size ∧ t6 = .int .i64 k ∧ t5 = .int .i64 u ∧ u ≤ 999999 ∧ Hid (u < 10 ^ k) ∧ Hid (Lib.decFrom 0 (s.data.toList.take k) = some u)) (fun _ t6 => s.size - (intOf t6).toNat)
      case atStart => exact ⟨0, 0, Nat.zero_le _, rfl, rfl, by omega, by show 0 < 1; omega, rfl⟩
      case round =>
        obtain ⟨k, u, hk, rfl, rfl, hu, HP, HD⟩ := hrel
        by_cases hlt : k < s.size
        · have hat := at_byte s k hlt
          have hby : (s[k].toNat : Int) < 256 := by have := s[k].toNat_lt; omega
          by_cases hdig : 48 ≤ s[k].toNat ∧ s[k].toNat ≤ 57
          · have hdv : Lib.digitVal s[k] = some (s[k].toNat - 48) := by unfold Lib.digitVal; rw [if_pos hdig]
            have HD2 : Hid (Lib.decFrom 0 (s.data.toList.take (k + 1)) = some (u * 10 + (s[k].toNat - 48))) := by
              show _ = _
              rw [take_at hat, decFrom_snoc, HD.out, hdv]; rfl
            have hP2 : u * 10 + (s[k].toNat - 48) < 10 ^ (k + 1) := by
              have := HP.out
              rw [Nat.pow_succ]; omega
            have hle : u * 10 + (s[k].toNat - 48) ≤ 999999 := by
              have : 10 ^ (k + 1) ≤ 10 ^ 6 := Nat.pow_le_pow_right (by omega) (by omega)
              omega
            have HP2 := Lib.hid hP2
            obtain ⟨g1, g2⟩ := hdig
            have t1 : decide ((s[k].toNat : Int) < 48) = false := by simp; omega
            have t2 : decide (57 < (s[k].toNat : Int)) = false := by simp; omega
            clear hP2 hdv hat
            go_wp2
            go_round
            case rel => exact ⟨k + 1, u * 10 + (s[k].toNat - 48), by omega, by go_num, by congr 1; omega, hle, HP2, HD2⟩
            case measure => simp [intOf]; omega
          · have hdv : Lib.digitVal s[k] = none := by unfold Lib.digitVal; rw [if_neg hdig]
            obtain ⟨rfl, rfl⟩ := read_none HC.out HR.out (decFrom_bad _ 0 k _ hat hdv)
            clear hat hdv
            by_cases h48 : s[k].toNat < 48
            · have t1 : decide ((s[k].toNat : Int) < 48) = true := by simp; omega
              clear hdig h48
              go_wp2
              go_ret2
              exact ⟨rfl, Drew.refl _⟩
            · have t1 : decide ((s[k].toNat : Int) < 48) = false := by simp; omega
              have t2 : decide (57 < (s[k].toNat : Int)) = true := by simp; omega
              clear hdig h48
              go_wp2
              go_ret2
              exact ⟨rfl, Drew.refl _⟩
        · have hfull : Lib.decFrom 0 s.data.toList = some u := by
            have h := HD.out
            rw [List.take_of_length_le (by rw [data_len]; omega)] at h
            exact h
          have hfin := read_fin (m := (u : Int)) HC.out HR.out hfull hu (by simp)
          have HN := Lib.hid (fun wx => l1Num_any ((u : Int)) wx (by omega) (by omega))
          clear hfull
          by_cases he : (⟨(Lib.itoa ((u : Int))).toArray⟩ : ByteArray) = s
          · obtain ⟨rfl, rfl⟩ := hfin.1 he
            have hq := lst_eq he
            clear hfin he HR
            go_wp2_with (go_at_call 25; refine (HN.out _).mono ?_; rintro e w' ⟨rfl, hd⟩)
            go_ret2
            exact ⟨rfl, hd⟩
          · obtain ⟨rfl, rfl⟩ := hfin.2 he
            have hq := lst_ne he
            clear hfin he HR
            go_wp2_with (go_at_call 25; refine (HN.out _).mono ?_; rintro e w' ⟨rfl, hd⟩)
            go_ret2
            exact ⟨rfl, hd⟩
  · obtain ⟨rfl, rfl⟩ := read_bad hcut hr hbad
    have hx : (s.size : Int) < 1 ∨ 6 < (s.size : Int) := by omega
    have HX := Lib.hid hx
    clear hbad hx hr hcut
    rcases hp with hp | ⟨h0, hp1, hp2⟩
    all_goals
      go_enter Tryd.func29, Tryd.ntmps29
      go_wp2_with (go_at_call 24; refine (l1In_no _ _ _ _ HX.out).mono ?_; rintro e w' ⟨rfl, rfl⟩)
      go_ret2
      exact ⟨rfl, Drew.refl _⟩

theorem l1Read_any (s : ByteArray) (w : World) (v : Int) (ok : Bool) (hs : s.size ≤ 1048576) (hr : ReadsAs s v ok) :
    Calls Tryd.prog 29 #[.string s] w fun e w' => e = .returned (.tuple #[.int .i64 v, .bool ok]) ∧ Drew w w' := by
  by_cases h1 : 1 < s.size
  · have h0 : 0 < s.size := by omega
    have hat := at_byte s 0 h0
    by_cases h2 : s[0] = 45
    · exact l1Read_neg s w v ok hs hr h1 (by rw [hat, h2])
    · refine l1Read_pos s w v ok hs hr (cut_pos fun hx => h2 ?_) (.inr ⟨h0, decide_eq_true (by omega), ?_⟩)
      · have := hx.2
        rw [hat] at this
        exact Option.some.inj this
      · rw [beq_eq_false_iff_ne]
        intro e
        apply h2
        apply UInt8.toNat_inj.1
        have h45 : (45 : UInt8).toNat = 45 := rfl
        omega
  · exact l1Read_pos s w v ok hs hr (cut_pos fun hx => h1 hx.1) (.inl (by simp; omega))
end Go.Proofs.YtofcnabpfdnohaaDoor
