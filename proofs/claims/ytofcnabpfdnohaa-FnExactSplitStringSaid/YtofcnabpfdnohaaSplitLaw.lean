/- FnExactSplitString: for every two strings, impl.SplitString answers as spec.SplitString, its answer owns its memory, and the law returns true. No condition. -/
import Derived.Test.YtofcnabpfdnohaaSpecSplit
import Derived.Test.YtofcnabpfdnohaaMark
import Derived.Test.YtofcnabpfdnohaaShell
import Derived.Test.YtofcnabpfdnohaaOpen
import Derived.ShutString
namespace Go.Proofs.Ytofcnabpfdnohaa.splitString
open Go.ChangeShapes Go.WideShapes Go.ChangeAt Go.RowKit
open Go.WideMaps Go.WideElems
open Go.ChangeMaps (open_string shut_string)
set_option linter.unusedVariables false


set_option maxHeartbeats 2000000 in
theorem walk (s sep : ByteArray) (w : World) (hs : s.size ≤ maxLen) (hsep : sep.size ≤ maxLen) :
    Calls Try.prog 4 #[.string s, .string sep] w fun e w' => e = .returned (.bool true) ∧ Below w.heap.size w w' := by
  have hs' := hs
  have hsep' := hsep
  unfold maxLen at hs' hsep'
  by_cases h1 : 1048576 < s.size
  · go_enter Try.func4, Try.ntmps4
    go_wp2
    go_ret
    exact ⟨rfl, Below.refl _ _⟩
  · by_cases h2 : 1048576 < sep.size
    · go_enter Try.func4, Try.ntmps4
      go_wp2
      go_ret
      exact ⟨rfl, Below.refl _ _⟩
    · obtain ⟨l, ok, hl, hsp, him⟩ := split_same s sep hs hsep
      have HS := Lib.hid hsp
      have HI := Lib.hid him
      have hlm : l.length ≤ maxLen := by unfold maxLen; omega
      clear hsp him hs hsep
      go_enter Try.func4, Try.ntmps4
      go_wp2_with fail
      refine (HS.out _).mono ?_
      rintro e w1 ⟨A0, c0, rfl, own0, hb1⟩
      have O0 := Lib.hid own0
      have hw01 := hb1.size
      have B1 := Lib.hid hb1
      clear own0 hb1
      go_wp2_with fail
      refine (HI.out _).mono ?_
      rintro e w2 ⟨A1, c1, rfl, own1, hb2⟩
      have O1 := Lib.hid own1
      have O0b := Lib.hid (own_below O0.out hb2 (own_lt O0.out))
      have B2 := Lib.hid (below_tr B1.out hb2 hw01)
      have hw12 := hb2.size
      clear own1 hb2
      go_wp2_with fail
      refine (eqStringS_yes l A1 A0 c1 c0 w2.heap.size _ (Rd.own O1.out) (Rd.own O0b.out) hlm).mono ?_
      rintro e w3 ⟨rfl, n3, rfl⟩
      go_wp2_with fail
      refine (markStringS_any l.length c1 w1.heap.size A1 (l.map Value.string) (w2.drewN n3) O1.out (by simpa using hw12) (by omega)).mono ?_
      rintro e w4 ⟨rfl, own4, hb4⟩
      have O4 := Lib.hid own4
      have O0c := Lib.hid (own_below (B := w1.heap.size) (w := w2.drewN n3) O0b.out hb4 (own_lt O0.out))
      have B4 := Lib.hid ((B2.out.trans (below_drewN _ w2 n3)).trans (hb4.mono hw01))
      have hw24 : w2.heap.size ≤ w4.heap.size := hb4.size
      clear own4 hb4
      go_wp2_with fail
      refine (heldStringS_any l.length c1 w1.heap.size A1 _ O4.out (by omega)).mono ?_
      rintro e w5 ⟨rfl, hb5⟩
      have O4b := Lib.hid (own_below O4.out hb5 (own_lt O4.out))
      have O0d := Lib.hid (own_below O0c.out hb5 (own_lt O0c.out))
      have B5 := Lib.hid (below_tr B4.out hb5 (by omega))
      have hw45 := hb5.size
      clear hb5
      go_wp2_with fail
      refine (HI.out _).mono ?_
      rintro e w6 ⟨A2, c2, rfl, own6, hb6⟩
      have R6 := Lib.hid (Rd.own own6)
      have O4c := Lib.hid (own_below O4b.out hb6 (own_lt O4b.out))
      have R0 := Lib.hid ((Rd.own O0d.out).below hb6)
      have B6 := Lib.hid (below_tr B5.out hb6 (by omega))
      have hw56 := hb6.size
      clear own6 hb6
      go_wp2_with fail
      refine (eqStringS_yes l A2 A0 c2 c0 w6.heap.size _ R6.out (R0.out.more hw56) hlm).mono ?_
      rintro e w7 ⟨rfl, n7, rfl⟩
      go_wp2_with fail
      refine (heldStringS_any l.length c1 w1.heap.size A1 (w6.drewN n7) O4c.out (by omega)).mono ?_
      rintro e w8 ⟨rfl, hb8⟩
      have B8 := Lib.hid (below_tr (B6.out.trans (below_drewN _ w6 n7)) hb8 (by simp; omega))
      clear hb8
      go_wp2
      go_ret
      exact ⟨rfl, B8.out⟩

set_option maxRecDepth 100000 in
theorem lifted (os : Os) (started : os.Started) (H : Type) (enc : TypeId × Value → H) :
    ReturnsInHanded {} Try.checked os 4 .any (Rows.fnExactSplitStringSpec.pre6 enc Try.prog Try.f4 Rows.fnExactSplitStringRow.domain false) (Rows.fnExactSplitStringSpec.post enc Try.prog Try.f4 false true false false) := by
  refine returnsInHanded_of_change (C := Try.checked) own started (by kernel_rfl) Try.func4
    (ChangeSpec.witness6 (enc := enc) (C := Try.checked) false ⟨#[], #[.string ⟨#[]⟩, .string ⟨#[]⟩], []⟩ 8 (by kernel_rfl) (by kernel_rfl) (by kernel_rfl) (by kernel_rfl)) ?_
  intro W base args ds gs before hval0 hW hcnd _
  have hval : ∀ (j : Nat) t v, Try.f4.params[j]? = some t → args[j]? = some v → Value.okWide Try.prog W .any base t v := hval0
  have hW' := hW
  obtain ⟨p, q, hA0, hV, rfl, hfz, hnd⟩ := hW
  have hA : DataW.TrodAll enc Try.prog W 0 (fun _ => true) true Try.f4.params.toList args.toList ds p := hA0
  rw [Try.params4] at hA hval
  obtain ⟨v0, v1, d0, d1, p0, p1, rfl, rfl, rfl, h0, h1⟩ := trodAll_two hA
  obtain ⟨rfl, rfl⟩ := trodVars_none hV
  obtain ⟨x0, rfl, rfl, rfl, wx0⟩ := open_string Try.underlying9 (hval 0 9 v0 rfl rfl) h0
  obtain ⟨x1, rfl, rfl, rfl, wx1⟩ := open_string Try.underlying9 (hval 1 9 v1 rfl rfl) h1
  clear hA0 hval0
  refine (walk x0 x1 W wx0 wx1).mono fun e W' ⟨he, hb⟩ => ?_
  subst he
  exact ⟨_, rfl, law_post (s := Rows.fnExactSplitStringSpec) laidOut (by kernel_rfl) (by rfl) Try.underlying4 rfl (fun xs hx => by match xs, hx with | [_, _], _ => rfl) hW' hb⟩

theorem proved : Rows.FnExactSplitStringSaid :=
  OpenClaim.holds_of_wide 4 Try.f4 rfl rfl rfl rfl rfl rfl rfl ⟨rfl, rfl, rfl, rfl, rfl⟩ rfl rfl rfl rfl rfl (by kernel_rfl) Try.func4 (by kernel_rfl)
    (of_decide_eq_true (by kernel_rfl)) (by unfold Func.isWrapper; first | (rw [if_pos (by decide +kernel)]; kernel_rfl) | (rw [if_neg (by decide +kernel)]; exact ⟨rfl, rfl⟩))
    (fun os started H enc _ => lifted os started H enc)
end Go.Proofs.Ytofcnabpfdnohaa.splitString
