/- FnExactJoinStrings: for every list of strings and every separator, impl.JoinStrings answers as spec.JoinStrings, it leaves its list as it was, and the law returns true. No condition. -/
import Derived.Test.YtofcnabpfdnohaaImplJoin
import Derived.Test.YtofcnabpfdnohaaSpecJoin
import Derived.Test.YtofcnabpfdnohaaToStrs
import Derived.Test.YtofcnabpfdnohaaOpen
import Derived.ShutString
namespace Go.Proofs.Ytofcnabpfdnohaa.joinStrings
open Go.ChangeShapes Go.WideShapes Go.ChangeAt Go.RowKit
open Go.WideMaps Go.WideElems
open Go.ChangeMaps (open_string shut_string)
set_option linter.unusedVariables false

theorem szOut_ok {l : List ByteArray} (h : ¬ szOut 1048576 l < 0) : l.length ≤ 1048576 ∧ ∀ s ∈ l, s.size ≤ 1048576 := by
  have hT := strsTot_nonneg l
  unfold szOut at h
  by_cases hn : (1048576 : Int) - l.length - strsTot l < 0
  · rw [if_pos hn] at h; omega
  · refine ⟨by omega, fun s hs => ?_⟩
    obtain ⟨k, hk⟩ := List.mem_iff_getElem?.1 hs
    have h1 := strsTot_take_le l (k + 1)
    rw [take_at hk, strsTot_snoc] at h1
    have := strsTot_nonneg (l.take k)
    omega

theorem join_same (l : List ByteArray) (sep : ByteArray) (hl : l.length ≤ 1048576) (hs : ∀ s ∈ l, s.size ≤ 1048576) (hsep : sep.size ≤ maxLen) :
    ∃ (r : ByteArray) (ok : Bool),
      (∀ (A : Option Addr) (c B : Nat) (w : World), Rd w B A (l.map .string) → Calls Try.prog 13 #[.slice A l.length c, .string sep] w fun e w' => e = .returned (.tuple #[.string r, .bool ok]) ∧ Drew w w') ∧
      (∀ (A : Option Addr) (c : Nat) (w : World), Rd w w.heap.size A (l.map .string) → l.length ≤ c → Calls Try.prog 12 #[.slice A l.length c, .string sep] w fun e w' => e = .returned (.tuple #[.string r, .bool ok]) ∧ Below w.heap.size w w') := by
  have hlm : l.length ≤ maxLen := by unfold maxLen; omega
  by_cases hbad : sep.size ≠ 1 ∨ l.length = 0
  · refine ⟨⟨#[]⟩, false, fun A c B w _ => ?_, fun A c w _ _ => ?_⟩
    · exact (specJoin_bad l A c sep w hlm hsep hbad).mono fun _ _ ⟨h1, h2⟩ => ⟨h1, h2 ▸ Drew.refl _⟩
    · exact (implJoin_bad l A c sep w hlm hsep hbad).mono fun _ _ ⟨h1, h2⟩ => ⟨h1, h2 ▸ Below.refl _ _⟩
  · obtain ⟨b, rfl⟩ := one_byte (s := sep) (by omega)
    refine ⟨_, _, fun A c B w h => specJoin_at l A c B b w h hlm hs (by omega), fun A c w h hc => implJoin_at l A c b w h hl hc hs (by omega)⟩

set_option maxHeartbeats 1000000 in
theorem walk (l : List ByteArray) (A : Option Addr) (c : Nat) (sep : ByteArray) (w : World) (h : Rd w w.heap.size A (l.map .string)) (hlc : l.length ≤ c) (hc : c ≤ maxLen) (hs : ∀ s ∈ l, s.size ≤ maxLen) (hsep : sep.size ≤ maxLen) :
    Calls Try.prog 5 #[.slice A l.length c, .string sep] w fun e w' => e = .returned (.bool true) ∧ Below w.heap.size w w' := by
  have hl : l.length ≤ maxLen := Nat.le_trans hlc hc
  have hsep' := hsep
  have hl' := hl
  unfold maxLen at hsep' hl'
  have HZ := Lib.hid (szStringS_any l A c w.heap.size 1048576 w h hl hs (by omega) (by omega))
  by_cases h1 : 1048576 < sep.size
  · clear h hs HZ
    go_enter Try.func5, Try.ntmps5
    go_wp2
    go_ret
    exact ⟨rfl, Below.refl _ _⟩
  · by_cases hz : szOut 1048576 l < 0
    · clear h hs
      go_enter Try.func5, Try.ntmps5
      go_wp2_with (go_at_call 21; refine HZ.out.mono ?_; rintro e w' ⟨rfl, rfl⟩)
      go_ret
      exact ⟨rfl, Below.refl _ _⟩
    · obtain ⟨hl20, hs20⟩ := szOut_ok hz
      obtain ⟨r, ok, hsj, hij⟩ := join_same l sep hl20 hs20 hsep
      have HS := Lib.hid hsj
      have HI := Lib.hid hij
      have HH := Lib.hid h
      clear h hs hs20 hc hsj hij
      go_enter Try.func5, Try.ntmps5
      go_wp2_with (go_at_call 21; refine HZ.out.mono ?_; rintro e w' ⟨rfl, rfl⟩)
      refine (toStringS_any l A c _ HH.out hl20).mono ?_
      rintro e w1 ⟨A1, c1, rfl, own1, hb1⟩
      have R1 := Rd.own own1
      have R0 := HH.out.below hb1
      clear own1
      go_wp2_with fail
      refine (HS.out A1 c1 w1.heap.size _ R1).mono ?_
      rintro e w2 ⟨rfl, hd2⟩
      have R0b := (R0.drawn hd2).more (B' := w2.heap.size) (by rw [hd2.size]; exact hb1.size)
      have hb2 := hb1.trans (hd2.below _)
      clear R0 R1 hb1 hd2
      go_wp2_with fail
      refine (toStringS_any l A c _ R0b hl20).mono ?_
      rintro e w3 ⟨A2, c2, rfl, own2, hb3⟩
      have R2 := Rd.own own2
      have hc2 := own_cap own2
      have hb3b := below_tr hb2 hb3 hb2.size
      have R0c := (R0b.below hb3).more hb3.size
      clear own2 hb3 hb2 R0b
      go_wp2_with fail
      refine (HI.out A2 c2 _ R2 hc2).mono ?_
      rintro e w4 ⟨rfl, hb4⟩
      have R2b := (R2.below hb4).more hb4.size
      have R0d := (R0c.below hb4).more hb4.size
      have hb4b := below_tr hb3b hb4 hb3b.size
      clear R2 R0c hb4 hb3b
      go_wp2_with fail
      refine (toStringS_any l A c _ R0d hl20).mono ?_
      rintro e w5 ⟨A3, c3, rfl, own3, hb5⟩
      have R3 := Rd.own own3
      have R2c := (R2b.below hb5).more hb5.size
      have hb5b := below_tr hb4b hb5 hb4b.size
      clear R2b R0d own3 hb5 hb4b
      go_wp2_with fail
      refine (eqStringS_yes l A2 A3 c2 c3 w5.heap.size _ R2c R3 hl).mono ?_
      rintro e w6 ⟨rfl, n, rfl⟩
      have hb6 := hb5b.trans (below_drewN _ w5 n)
      clear R2c R3 hb5b
      go_wp2
      go_ret
      exact ⟨rfl, hb6⟩

set_option maxRecDepth 100000 in
theorem lifted (os : Os) (started : os.Started) (H : Type) (enc : TypeId × Value → H) :
    ReturnsInHanded {} Try.checked os 5 .any (Rows.fnExactJoinStringsSpec.pre6 enc Try.prog Try.f5 Rows.fnExactJoinStringsRow.domain false) (Rows.fnExactJoinStringsSpec.post enc Try.prog Try.f5 false true false false) := by
  refine returnsInHanded_of_change (C := Try.checked) own started (by kernel_rfl) Try.func5
    (ChangeSpec.witness6 (enc := enc) (C := Try.checked) false ⟨#[], #[.slice none 0 0, .string ⟨#[]⟩], []⟩ 8 (by kernel_rfl) (by kernel_rfl) (by kernel_rfl) (by kernel_rfl)) ?_
  intro W base args ds gs before hval0 hW hcnd _
  have hval : ∀ (j : Nat) t v, Try.f5.params[j]? = some t → args[j]? = some v → Value.okWide Try.prog W .any base t v := hval0
  have hW' := hW
  obtain ⟨p, q, hA0, hV, rfl, hfz, hnd⟩ := hW
  have hA : DataW.TrodAll enc Try.prog W 0 (fun _ => true) true Try.f5.params.toList args.toList ds p := hA0
  rw [Try.params5] at hA hval
  obtain ⟨v0, v1, d0, d1, p0, p1, rfl, rfl, rfl, h0, h1⟩ := trodAll_two hA
  obtain ⟨A, l, c, rfl, hrd, hlc, hc, hls⟩ := open_strs_rd Try.underlying26 Try.underlying9 (by kernel_rfl) (hval 0 26 v0 rfl rfl) h0
  obtain ⟨b, rfl, rfl, rfl, wb⟩ := open_string Try.underlying9 (hval 1 9 v1 rfl rfl) h1
  clear hA0 hval0
  refine (walk l A c b W hrd hlc hc hls wb).mono fun e W' ⟨he, hb⟩ => ?_
  subst he
  exact ⟨_, rfl, law_post laidOut (by kernel_rfl) (by rfl) Try.underlying4 rfl (fun xs hx => by match xs, hx with | [_, _], _ => rfl) hW' hb⟩

theorem proved : Rows.FnExactJoinStringsSaid :=
  OpenClaim.holds_of_wide 5 Try.f5 rfl rfl rfl rfl rfl rfl rfl ⟨rfl, rfl, rfl, rfl, rfl⟩ rfl rfl rfl rfl rfl (by kernel_rfl) Try.func5 (by kernel_rfl)
    (of_decide_eq_true (by kernel_rfl)) (by unfold Func.isWrapper; first | (rw [if_pos (by decide +kernel)]; kernel_rfl) | (rw [if_neg (by decide +kernel)]; exact ⟨rfl, rfl⟩))
    (fun os started H enc _ => lifted os started H enc)
end Go.Proofs.Ytofcnabpfdnohaa.joinStrings
