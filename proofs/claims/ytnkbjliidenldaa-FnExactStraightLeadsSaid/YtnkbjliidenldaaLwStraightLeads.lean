/- FnExactStraightLeads: for all arguments, impl.StraightLeads answers as spec.StraightLeads, leaves its arguments as they were, and the law returns true. No condition. -/
import Derived.Test.YtnkbjliidenldaaAbLStraightLeads
import Derived.Test.YtnkbjliidenldaaAbHead
import Derived.Test.YtnkbjliidenldaaShell
import Derived.Test.YtnkbjliidenldaaOpen
import Derived.ShutString
namespace Go.Proofs.Ytnkbjliidenldaa.exactStraightLeads
open Go.ChangeShapes Go.WideShapes Go.ChangeAt Go.RowKit
open Go.WideMaps Go.WideElems
open Go.ChangeMaps (open_string shut_string)
set_option linter.unusedVariables false

theorem walk (v0 : Value) (d0 : List Pc) (w : World) (hk0 : PcsIn w v0 d0) :
    Calls Try.prog 16 #[v0] w fun e w' => e = .returned (.bool true) ∧ Below w.heap.size w w' := by
  obtain ⟨ρ0, _, ⟨p0, g0, n0, rfl⟩, y0, q0, r0⟩ := Ab.argParcels (Ab.MRel.start w (Ab.tab_none rfl)) hk0
  exact Ab.law_calls (Ab.law_FnExactStraightLeads _ d0 y0 r0) g0 (Ab.VL.cons q0 (Ab.VL.nil _))

set_option maxRecDepth 100000 in
theorem lifted (os : Os) (started : os.Started) (H : Type) (enc : TypeId × Value → H) :
    ReturnsInHanded {} Try.checked os 16 .any (Rows.fnExactStraightLeadsSpec.pre6 enc Try.prog Try.f16 Rows.fnExactStraightLeadsRow.domain false) (Rows.fnExactStraightLeadsSpec.post enc Try.prog Try.f16 false true false false) := by
  refine returnsInHanded_of_change (C := Try.checked) own started (by kernel_rfl) Try.func16
    (ChangeSpec.witness6 (enc := enc) (C := Try.checked) false ⟨#[], #[.slice none 0 0], []⟩ 8 (by kernel_rfl) (by kernel_rfl) (by kernel_rfl) (by kernel_rfl)) ?_
  intro W base args ds gs before hval0 hW hcnd _
  have hval : ∀ (j : Nat) t v, Try.f16.params[j]? = some t → args[j]? = some v → Value.okWide Try.prog W .any base t v := hval0
  have hW' := hW
  obtain ⟨p, q, hA0, hV, rfl, hfz, hnd⟩ := hW
  have hA : DataW.TrodAll enc Try.prog W 0 (fun _ => true) true Try.f16.params.toList args.toList ds p := hA0
  rw [Try.params16] at hA hval
  obtain ⟨v0, d0, rfl, rfl, h0⟩ := trodAll_one hA
  obtain ⟨rfl, rfl⟩ := trodVars_none hV
  obtain ⟨d0, hk0⟩ := open_parcels (hval 0 63 v0 rfl rfl) h0
  clear hA0 hval0
  refine (walk v0 d0 W hk0).mono fun e W' ⟨he, hb⟩ => ?_
  subst he
  exact ⟨_, rfl, law_post (s := Rows.fnExactStraightLeadsSpec) laidOut (by kernel_rfl) (by rfl) Try.underlying4 rfl (fun xs hx => by match xs, hx with | [_], _ => rfl) hW' hb⟩

set_option maxRecDepth 100000 in
theorem facts : joinedFacts Try.prog 16 Try.f16 Rows.fnExactStraightLeadsSpec Rows.fnExactStraightLeadsRow = true := by
  unfold joinedFacts
  rw [Ab.enters, Ab.no_finals, Ab.makes]
  kernel_rfl

theorem proved : Rows.FnExactStraightLeadsSaid :=
  OpenClaim.holds_of_wide 16 Try.f16 rfl rfl rfl rfl rfl rfl rfl ⟨rfl, rfl, rfl, rfl, rfl⟩ rfl rfl rfl rfl rfl (by kernel_rfl) Try.func16 facts
    (of_decide_eq_true (by kernel_rfl)) (by unfold Func.isWrapper; first | (rw [if_pos (by decide +kernel)]; kernel_rfl) | (rw [if_neg (by decide +kernel)]; exact ⟨rfl, rfl⟩))
    (fun os started H enc _ => lifted os started H enc)
end Go.Proofs.Ytnkbjliidenldaa.exactStraightLeads
