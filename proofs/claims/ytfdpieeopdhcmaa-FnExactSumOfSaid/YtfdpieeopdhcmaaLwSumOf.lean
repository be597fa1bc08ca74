/- FnExactSumOf: for all arguments, impl.SumOf answers as spec.SumOf, leaves its arguments as they were, and the law returns true. No condition. -/
import Derived.Test.YtfdpieeopdhcmaaAbLSumOf
import Derived.Test.YtfdpieeopdhcmaaAbHead
import Derived.Test.YtfdpieeopdhcmaaShell
import Derived.Test.YtfdpieeopdhcmaaOpen
import Derived.ShutString
namespace Go.Proofs.Ytfdpieeopdhcmaa.exactSumOf
open Go.ChangeShapes Go.WideShapes Go.ChangeAt Go.RowKit
open Go.WideMaps Go.WideElems
open Go.ChangeMaps (open_string shut_string)
set_option linter.unusedVariables false

theorem walk (v0 : Value) (l0 : List Int) (v1 : Value) (l1 : List Int) (w : World) (hi0 : IntsIn w v0 l0) (hi1 : IntsIn w v1 l1) :
    Calls Try.prog 16 #[v0, v1] w fun e w' => e = .returned (.bool true) ∧ Below w.heap.size w w' := by
  obtain ⟨ρ0, m0, e0, g0, q0, r0, s0, z0⟩ := Ab.argI (Ab.MRel.start w) hi0
  obtain ⟨ρ1, m1, e1, g1, q1, r1, s1, z1⟩ := Ab.argI g0 hi1
  exact Ab.law_calls (Ab.law_FnExactSumOf m1 l0 _ l1 _ (s1 _ _ r0) r1) g1 (Ab.VL.cons (q0.mono e1) (Ab.VL.cons q1 (Ab.VL.nil _)))

set_option maxRecDepth 100000 in
theorem lifted (os : Os) (started : os.Started) (H : Type) (enc : TypeId × Value → H) :
    ReturnsInHanded {} Try.checked os 16 .any (Rows.fnExactSumOfSpec.pre6 enc Try.prog Try.f16 Rows.fnExactSumOfRow.domain false) (Rows.fnExactSumOfSpec.post enc Try.prog Try.f16 false true false false) := by
  refine returnsInHanded_of_change (C := Try.checked) own started (by kernel_rfl) Try.func16
    (ChangeSpec.witness6 (enc := enc) (C := Try.checked) false ⟨#[], #[.slice none 0 0, .slice none 0 0], []⟩ 8 (by kernel_rfl) (by kernel_rfl) (by kernel_rfl) (by kernel_rfl)) ?_
  intro W base args ds gs before hval0 hW hcnd _
  have hval : ∀ (j : Nat) t v, Try.f16.params[j]? = some t → args[j]? = some v → Value.okWide Try.prog W .any base t v := hval0
  have hW' := hW
  obtain ⟨p, q, hA0, hV, rfl, hfz, hnd⟩ := hW
  have hA : DataW.TrodAll enc Try.prog W 0 (fun _ => true) true Try.f16.params.toList args.toList ds p := hA0
  rw [Try.params16] at hA hval
  obtain ⟨v0, v1, d0, d1, p0, p1, rfl, rfl, rfl, h0, h1⟩ := trodAll_two hA
  obtain ⟨rfl, rfl⟩ := trodVars_none hV
  obtain ⟨l0, hi0, hwf0⟩ := open_ints_in (hval 0 24 v0 rfl rfl) h0
  obtain ⟨l1, hi1, hwf1⟩ := open_ints_in (hval 1 24 v1 rfl rfl) h1
  clear hA0 hval0
  refine (walk v0 l0 v1 l1 W hi0 hi1).mono fun e W' ⟨he, hb⟩ => ?_
  subst he
  exact ⟨_, rfl, law_post (s := Rows.fnExactSumOfSpec) laidOut (by kernel_rfl) (by rfl) Try.underlying4 rfl (fun xs hx => by match xs, hx with | [_, _], _ => rfl) hW' hb⟩

set_option maxRecDepth 100000 in
theorem facts : joinedFacts Try.prog 16 Try.f16 Rows.fnExactSumOfSpec Rows.fnExactSumOfRow = true := by
  unfold joinedFacts
  rw [Ab.enters, Ab.no_finals, Ab.makes]
  kernel_rfl

theorem proved : Rows.FnExactSumOfSaid :=
  OpenClaim.holds_of_wide 16 Try.f16 rfl rfl rfl rfl rfl rfl rfl ⟨rfl, rfl, rfl, rfl, rfl⟩ rfl rfl rfl rfl rfl (by kernel_rfl) Try.func16 facts
    (of_decide_eq_true (by kernel_rfl)) (by unfold Func.isWrapper; first | (rw [if_pos (by decide +kernel)]; kernel_rfl) | (rw [if_neg (by decide +kernel)]; exact ⟨rfl, rfl⟩))
    (fun os started H enc _ => lifted os started H enc)
end Go.Proofs.Ytfdpieeopdhcmaa.exactSumOf
