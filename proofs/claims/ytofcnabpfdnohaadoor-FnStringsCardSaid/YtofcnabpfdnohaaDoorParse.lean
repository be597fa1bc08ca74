/- The contracts of spec.ParseInt and impl.ParseInt. -/
import Derived.Test.YtofcnabpfdnohaaDoorRead
import Derived.Test.YtofcnabpfdnohaaDoorShelfAtoi
import Derived.Lib.AtoiErrMem
namespace Go.Proofs.YtofcnabpfdnohaaDoor
open Go.RowKit
set_option linter.unusedVariables false

theorem atoi_ends (l : List UInt8) : (∃ v, Lib.atoiAll l = .ok v) ∨ Lib.atoiAll l = Lib.NumEnd.ofOption none ∨ Lib.atoiAll l = .range := by
  generalize Lib.atoiAll l = x
  cases x
  · exact .inl ⟨_, rfl⟩
  · exact .inr (.inl rfl)
  · exact .inr (.inr rfl)

/-- Every text is read as something. -/
theorem reads_some (s : ByteArray) : ∃ (v : Int) (ok : Bool), ReadsAs s v ok := by
  by_cases h : ∃ n : Int, -999999 ≤ n ∧ n ≤ 999999 ∧ (⟨(Lib.itoa n).toArray⟩ : ByteArray) = s
  · obtain ⟨n, h0, h1, he⟩ := h
    refine ⟨n, true, fun m _ _ hm => ⟨?_, rfl⟩, fun hn => absurd he (hn n h0 h1)⟩
    exact itoa_inj (by rw [← eq_itoa he, ← eq_itoa hm])
  · exact ⟨0, false, fun m g0 g1 hm => absurd ⟨m, g0, g1, hm⟩ h, fun _ => ⟨rfl, rfl⟩⟩

set_option maxHeartbeats 1000000 in
theorem specParse_any (s : ByteArray) (w : World) (v : Int) (ok : Bool) (hs : s.size ≤ 1048576) (hr : ReadsAs s v ok) :
    Calls Tryd.prog 14 #[.string s] w fun e w' => e = .returned (.tuple #[.int .i64 v, .bool ok]) ∧ Drew w w' := by
  have HR := Lib.hid (fun wx => l1Read_any s wx v ok hs hr)
  clear hr
  go_enter Tryd.func14, Tryd.ntmps14
  go_wp2_with (go_at_call 29; refine (HR.out _).mono ?_; rintro e w' ⟨rfl, hd⟩)
  go_ret2
  exact ⟨rfl, hd⟩

theorem not_itoa {s : ByteArray} (h : ∀ v, Lib.atoiAll s.data.toList ≠ .ok v) : ∀ n : Int, -999999 ≤ n → n ≤ 999999 → (⟨(Lib.itoa n).toArray⟩ : ByteArray) ≠ s := by
  intro n h0 h1 he
  exact h n (by rw [eq_itoa he]; exact atoiAll_itoa n h0 h1)

set_option maxHeartbeats 1000000 in
theorem implParse_fail (s : ByteArray) (w : World) (hs : s.size ≤ 1048576) (h : ∀ v, Lib.atoiAll s.data.toList ≠ .ok v) (tp1 tp2 : TypeId)
    (hv1 : ∃ p, w.var? Tryd.prog "strconv.ErrRange" = some #[.iface tp1 p]) (hv2 : ∃ p, w.var? Tryd.prog "strconv.ErrSyntax" = some #[.iface tp2 p]) :
    Calls Tryd.prog 13 #[.string s] w fun e w' => e = .returned (.tuple #[.int .i64 0, .bool false]) ∧ Below w.heap.size w w' := by
  obtain ⟨p1, hv1⟩ := hv1
  obtain ⟨p2, hv2⟩ := hv2
  rcases atoi_ends s.data.toList with ⟨v, hv⟩ | hv | hv
  · exact absurd hv (h v)
  · have HA := Lib.hid (Tryd.strconv_Atoi_syntax_var s (by omega) hv tp2 p2 w hv2)
    clear hv hv1 hv2 h
    go_enter Tryd.func13, Tryd.ntmps13
    go_wp2_with (go_at_call 28; refine HA.out.mono ?_; rintro e w1 ⟨N, rfl, _, _, hb⟩)
    go_ret2
    exact ⟨rfl, hb⟩
  · have HA := Lib.hid (Tryd.strconv_Atoi_range_var s (by omega) hv tp1 p1 w hv1)
    clear hv hv1 hv2 h
    go_enter Tryd.func13, Tryd.ntmps13
    go_wp2_with (go_at_call 28; refine HA.out.mono ?_; rintro e w1 ⟨N, rfl, _, _, hb⟩)
    go_ret2
    exact ⟨rfl, hb⟩

set_option maxHeartbeats 1000000 in
theorem implParse_ok (s : ByteArray) (w : World) (v : Int) (ok : Bool) (u : Int) (hs : s.size ≤ 1048576) (hr : ReadsAs s v ok) (h : Lib.atoiAll s.data.toList = .ok u) (htab : Lib.TabIs Tryd.prog w "internal/strconv.uint64pow10" .u64 Lib.pow10Tab) :
    Calls Tryd.prog 13 #[.string s] w fun e w' => e = .returned (.tuple #[.int .i64 v, .bool ok]) ∧ Below w.heap.size w w' := by
  obtain ⟨b1, b2⟩ := Lib.atoiAll_bounds h
  have HA0 : Calls Tryd.prog 28 #[.string s] w fun e w' => e = .returned (.tuple #[.int .i64 u, .nilIface]) ∧ Below w.heap.size w w' :=
    (Tryd.strconv_Atoi_ok s (by omega) u h w).mono fun e w' ⟨h1, h2⟩ => ⟨h1, by
      rcases h2 with h2 | ⟨t, h2⟩
      · rw [h2]; exact Below.refl _ _
      · rw [h2]; exact Lib.bytesWorld_below _ _ _⟩
  have HA := Lib.hid HA0
  have HF := fun wx (hx : Below w.heap.size w wx) => implFormat_any u wx (WalkArith.wf_i64 ⟨b1, b2⟩) (tab_below hx htab)
  have hu : ∀ n : Int, -999999 ≤ n → n ≤ 999999 → (⟨(Lib.itoa n).toArray⟩ : ByteArray) = s → n = u := by
    intro n h0 h1 he
    have h2 := atoiAll_itoa n h0 h1
    rw [← eq_itoa he, h] at h2
    cases h2; rfl
  clear HA0 htab h
  by_cases hin : -999999 ≤ u ∧ u ≤ 999999
  · have e1 : fmtStr u = ⟨(Lib.itoa u).toArray⟩ := by unfold fmtStr; rw [if_pos hin]
    have e2 : fmtOk u = true := by unfold fmtOk; simpa using hin
    rw [e1, e2] at HF
    have HF2 := Lib.hid HF
    by_cases he : (⟨(Lib.itoa u).toArray⟩ : ByteArray) = s
    · obtain ⟨rfl, rfl⟩ := hr.1 u hin.1 hin.2 he
      have hq := lst_eq he
      clear hr hu HF e1 e2 he hin
      go_enter Tryd.func13, Tryd.ntmps13
      go_wp2_with (first | (go_at_call 28; refine HA.out.mono ?_; rintro e w1 ⟨rfl, hb1⟩) | (go_at_call 10; refine (HF2.out _ hb1).mono ?_; rintro e w2 ⟨rfl, hb2⟩))
      go_ret2
      exact ⟨rfl, hb1.trans (hb2.mono hb1.size)⟩
    · obtain ⟨rfl, rfl⟩ := hr.2 fun n h0 h1 hn => he (by rw [← hu n h0 h1 hn]; exact hn)
      have hq := lst_ne he
      clear hr hu HF e1 e2 he hin
      go_enter Tryd.func13, Tryd.ntmps13
      go_wp2_with (first | (go_at_call 28; refine HA.out.mono ?_; rintro e w1 ⟨rfl, hb1⟩) | (go_at_call 10; refine (HF2.out _ hb1).mono ?_; rintro e w2 ⟨rfl, hb2⟩))
      go_ret2
      exact ⟨rfl, hb1.trans (hb2.mono hb1.size)⟩
  · obtain ⟨rfl, rfl⟩ := hr.2 fun n h0 h1 hn => hin (by have := hu n h0 h1 hn; omega)
    have e2 : fmtOk u = false := by unfold fmtOk; simpa using hin
    rw [e2] at HF
    have HF2 := Lib.hid HF
    clear hr hu HF e2 hin
    go_enter Tryd.func13, Tryd.ntmps13
    go_wp2_with (first | (go_at_call 28; refine HA.out.mono ?_; rintro e w1 ⟨rfl, hb1⟩) | (go_at_call 10; refine (HF2.out _ hb1).mono ?_; rintro e w2 ⟨rfl, hb2⟩))
    go_ret2
    exact ⟨rfl, hb1.trans (hb2.mono hb1.size)⟩

theorem implParse_any (s : ByteArray) (w : World) (v : Int) (ok : Bool) (hs : s.size ≤ 1048576) (hr : ReadsAs s v ok) (htab : Lib.TabIs Tryd.prog w "internal/strconv.uint64pow10" .u64 Lib.pow10Tab) (tp1 tp2 : TypeId)
    (hv1 : ∃ p, w.var? Tryd.prog "strconv.ErrRange" = some #[.iface tp1 p]) (hv2 : ∃ p, w.var? Tryd.prog "strconv.ErrSyntax" = some #[.iface tp2 p]) :
    Calls Tryd.prog 13 #[.string s] w fun e w' => e = .returned (.tuple #[.int .i64 v, .bool ok]) ∧ Below w.heap.size w w' := by
  by_cases h : ∃ u, Lib.atoiAll s.data.toList = .ok u
  · obtain ⟨u, hu⟩ := h
    exact implParse_ok s w v ok u hs hr hu htab
  · have h' : ∀ u, Lib.atoiAll s.data.toList ≠ .ok u := fun u hu => h ⟨u, hu⟩
    obtain ⟨rfl, rfl⟩ := hr.2 (not_itoa h')
    exact implParse_fail s w hs h' tp1 tp2 hv1 hv2
end Go.Proofs.YtofcnabpfdnohaaDoor
