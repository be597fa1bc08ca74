/- FnExactIsPriceProof: for all arguments, impl.IsPriceProof answers as spec.IsPriceProof, leaves its arguments as they were, and the law returns true. No condition. -/
import Derived.Test.YtonpeflncnccdaaAbLIsPriceProof
import Derived.Test.YtonpeflncnccdaaAbHead
import Derived.Test.YtonpeflncnccdaaShell
import Derived.Test.YtonpeflncnccdaaOpen
import Derived.ShutString
namespace Go.Proofs.Ytonpeflncnccdaa.exactIsPriceProof
open Go.ChangeShapes Go.WideShapes Go.ChangeAt Go.RowKit
open Go.WideMaps Go.WideElems
open Go.ChangeMaps (open_string shut_string)
set_option linter.unusedVariables false

theorem walk (v0 : Value) (k0 : Cs) (v1 : Value) (l1 : List Int) (v2 : Value) (l2 : List Int) (w : World) (hk0 : CaseIn w v0 k0) (hi1 : IntsIn w v1 l1) (hi2 : IntsIn w v2 l2) :
    Calls Try.prog 10 #[v0, v1, v2] w fun e w' => e = .returned (.bool true) ∧ Below w.heap.size w w' := by
  obtain ⟨ρ0, m0, a00, a01, a02, a03, e0, g0, q0, r00, r01, r02, r03, s0, z0⟩ := Ab.argC (Ab.MRel.start w (Ab.tab_none rfl)) hk0
  obtain ⟨ρ1, m1, e1, g1, q1, r1, s1, z1⟩ := Ab.argI g0 hi1
  obtain ⟨ρ2, m2, e2, g2, q2, r2, s2, z2⟩ := Ab.argI g1 hi2
  exact Ab.law_calls (Ab.law_FnExactIsPriceProof m2 k0 _ _ _ _ l1 _ l2 _ (s2 _ _ (s1 _ _ r00)) (s2 _ _ (s1 _ _ r01)) (s2 _ _ (s1 _ _ r02)) (s2 _ _ (s1 _ _ r03)) (s2 _ _ r1) r2) g2 (Ab.VL.cons ((q0.mono e1).mono e2) (Ab.VL.cons (q1.mono e2) (Ab.VL.cons q2 (Ab.VL.nil _))))

set_option maxRecDepth 100000 in
theorem lifted (os : Os) (started : os.Started) (H : Type) (enc : TypeId × Value → H) :
    ReturnsInHanded {} Try.checked os 10 .any (Rows.fnExactIsPriceProofSpec.pre6 enc Try.prog Try.f10 Rows.fnExactIsPriceProofRow.domain false) (Rows.fnExactIsPriceProofSpec.post enc Try.prog Try.f10 false true false false) := by
  refine returnsInHanded_of_change (C := Try.checked) own started (by kernel_rfl) Try.func10
    (ChangeSpec.witness6 (enc := enc) (C := Try.checked) false ⟨#[], #[.agg #[.slice none 0 0, .slice none 0 0, .slice none 0 0, .slice none 0 0], .slice none 0 0, .slice none 0 0], []⟩ 8 (by kernel_rfl) (by kernel_rfl) (by kernel_rfl) (by kernel_rfl)) ?_
  intro W base args ds gs before hval0 hW hcnd _
  have hval : ∀ (j : Nat) t v, Try.f10.params[j]? = some t → args[j]? = some v → Value.okWide Try.prog W .any base t v := hval0
  have hW' := hW
  obtain ⟨p, q, hA0, hV, rfl, hfz, hnd⟩ := hW
  have hA : DataW.TrodAll enc Try.prog W 0 (fun _ => true) true Try.f10.params.toList args.toList ds p := hA0
  rw [Try.params10] at hA hval
  obtain ⟨v0, v1, v2, d0, d1, d2, p0, p1, p2, rfl, rfl, rfl, h0, h1, h2⟩ := trodAll_three hA
  obtain ⟨rfl, rfl⟩ := trodVars_none hV
  obtain ⟨k0, hk0⟩ := open_case (hval 0 24 v0 rfl rfl) h0
  obtain ⟨l1, hi1, hwf1⟩ := open_ints_in (hval 1 22 v1 rfl rfl) h1
  obtain ⟨l2, hi2, hwf2⟩ := open_ints_in (hval 2 22 v2 rfl rfl) h2
  clear hA0 hval0
  refine (walk v0 k0 v1 l1 v2 l2 W hk0 hi1 hi2).mono fun e W' ⟨he, hb⟩ => ?_
  subst he
  exact ⟨_, rfl, law_post (s := Rows.fnExactIsPriceProofSpec) laidOut (by kernel_rfl) (by rfl) Try.underlying4 rfl (fun xs hx => by match xs, hx with | [_, _, _], _ => rfl) hW' hb⟩

set_option maxRecDepth 100000 in
theorem facts : joinedFacts Try.prog 10 Try.f10 Rows.fnExactIsPriceProofSpec Rows.fnExactIsPriceProofRow = true := by
  unfold joinedFacts
  rw [Ab.enters, Ab.no_finals, Ab.makes]
  kernel_rfl

theorem proved : Rows.FnExactIsPriceProofSaid :=
  OpenClaim.holds_of_wide 10 Try.f10 rfl rfl rfl rfl rfl rfl rfl ⟨rfl, rfl, rfl, rfl, rfl⟩ rfl rfl rfl rfl rfl (by kernel_rfl) Try.func10 facts
    (of_decide_eq_true (by kernel_rfl)) (by unfold Func.isWrapper; first | (rw [if_pos (by decide +kernel)]; kernel_rfl) | (rw [if_neg (by decide +kernel)]; exact ⟨rfl, rfl⟩))
    (fun os started H enc _ => lifted os started H enc)
end Go.Proofs.Ytonpeflncnccdaa.exactIsPriceProof
