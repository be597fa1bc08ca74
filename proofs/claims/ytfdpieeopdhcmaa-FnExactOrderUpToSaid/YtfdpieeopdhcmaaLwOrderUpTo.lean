/- FnExactOrderUpTo: for all arguments, impl.OrderUpTo answers as spec.OrderUpTo, leaves its arguments as they were, and the law returns true. No condition. -/
import Derived.Test.YtfdpieeopdhcmaaAbLOrderUpTo
import Derived.Test.YtfdpieeopdhcmaaAbHead
import Derived.Test.YtfdpieeopdhcmaaMany
import Derived.Test.YtfdpieeopdhcmaaShell
import Derived.Test.YtfdpieeopdhcmaaOpen
import Derived.ShutString
namespace Go.Proofs.Ytfdpieeopdhcmaa.exactOrderUpTo
open Go.ChangeShapes Go.WideShapes Go.ChangeAt Go.RowKit
open Go.WideMaps Go.WideElems
open Go.ChangeMaps (open_string shut_string)
set_option linter.unusedVariables false

theorem walk (v0 : Value) (l0 : List Int) (x1 : Int) (x2 : Int) (x3 : Int) (x4 : Int) (x5 : Int) (w : World) (hi0 : IntsIn w v0 l0) (wx1 : (Lit.int .i64 x1).wf = true) (wx2 : (Lit.int .i64 x2).wf = true) (wx3 : (Lit.int .i64 x3).wf = true) (wx4 : (Lit.int .i64 x4).wf = true) (wx5 : (Lit.int .i64 x5).wf = true) :
    Calls Try.prog 21 #[v0, .int .i64 x1, .int .i64 x2, .int .i64 x3, .int .i64 x4, .int .i64 x5] w fun e w' => e = .returned (.bool true) ∧ Below w.heap.size w w' := by
  obtain ⟨ρ0, m0, e0, g0, q0, r0, s0, z0⟩ := Ab.argI (Ab.MRel.start w) hi0
  exact Ab.law_calls (Ab.law_FnExactOrderUpTo m0 l0 _ x1 x2 x3 x4 x5 r0) g0 (Ab.VL.cons q0 (Ab.VL.cons (.int _ _) (Ab.VL.cons (.int _ _) (Ab.VL.cons (.int _ _) (Ab.VL.cons (.int _ _) (Ab.VL.cons (.int _ _) (Ab.VL.nil _)))))))

set_option maxRecDepth 100000 in
theorem lifted (os : Os) (started : os.Started) (H : Type) (enc : TypeId × Value → H) :
    ReturnsInHanded {} Try.checked os 21 .any (Rows.fnExactOrderUpToSpec.pre6 enc Try.prog Try.f21 Rows.fnExactOrderUpToRow.domain false) (Rows.fnExactOrderUpToSpec.post enc Try.prog Try.f21 false true false false) := by
  refine returnsInHanded_of_change (C := Try.checked) own started (by kernel_rfl) Try.func21
    (ChangeSpec.witness6 (enc := enc) (C := Try.checked) false ⟨#[], #[.slice none 0 0, .int .i64 0, .int .i64 0, .int .i64 0, .int .i64 0, .int .i64 0], []⟩ 8 (by kernel_rfl) (by kernel_rfl) (by kernel_rfl) (by kernel_rfl)) ?_
  intro W base args ds gs before hval0 hW hcnd _
  have hval : ∀ (j : Nat) t v, Try.f21.params[j]? = some t → args[j]? = some v → Value.okWide Try.prog W .any base t v := hval0
  have hW' := hW
  obtain ⟨p, q, hA0, hV, rfl, hfz, hnd⟩ := hW
  have hA : DataW.TrodAll enc Try.prog W 0 (fun _ => true) true Try.f21.params.toList args.toList ds p := hA0
  rw [Try.params21] at hA hval
  obtain ⟨v0, v1, v2, v3, v4, v5, d0, d1, d2, d3, d4, d5, p0, p1, p2, p3, p4, p5, rfl, rfl, rfl, h0, h1, h2, h3, h4, h5⟩ := trodAll_six hA
  obtain ⟨rfl, rfl⟩ := trodVars_none hV
  obtain ⟨l0, hi0, hwf0⟩ := open_ints_in (hval 0 24 v0 rfl rfl) h0
  obtain ⟨x1, rfl, rfl, rfl, wx1⟩ := open_int Try.underlying3 (hval 1 3 v1 rfl rfl) h1
  obtain ⟨x2, rfl, rfl, rfl, wx2⟩ := open_int Try.underlying3 (hval 2 3 v2 rfl rfl) h2
  obtain ⟨x3, rfl, rfl, rfl, wx3⟩ := open_int Try.underlying3 (hval 3 3 v3 rfl rfl) h3
  obtain ⟨x4, rfl, rfl, rfl, wx4⟩ := open_int Try.underlying3 (hval 4 3 v4 rfl rfl) h4
  obtain ⟨x5, rfl, rfl, rfl, wx5⟩ := open_int Try.underlying3 (hval 5 3 v5 rfl rfl) h5
  clear hA0 hval0
  refine (walk v0 l0 x1 x2 x3 x4 x5 W hi0 wx1 wx2 wx3 wx4 wx5).mono fun e W' ⟨he, hb⟩ => ?_
  subst he
  exact ⟨_, rfl, law_post (s := Rows.fnExactOrderUpToSpec) laidOut (by kernel_rfl) (by rfl) Try.underlying4 rfl (fun xs hx => by match xs, hx with | [_, _, _, _, _, _], _ => rfl) hW' hb⟩

set_option maxRecDepth 100000 in
theorem facts : joinedFacts Try.prog 21 Try.f21 Rows.fnExactOrderUpToSpec Rows.fnExactOrderUpToRow = true := by
  unfold joinedFacts
  rw [Ab.enters, Ab.no_finals, Ab.makes]
  kernel_rfl

theorem proved : Rows.FnExactOrderUpToSaid :=
  OpenClaim.holds_of_wide 21 Try.f21 rfl rfl rfl rfl rfl rfl rfl ⟨rfl, rfl, rfl, rfl, rfl⟩ rfl rfl rfl rfl rfl (by kernel_rfl) Try.func21 facts
    (of_decide_eq_true (by kernel_rfl)) (by unfold Func.isWrapper; first | (rw [if_pos (by decide +kernel)]; kernel_rfl) | (rw [if_neg (by decide +kernel)]; exact ⟨rfl, rfl⟩))
    (fun os started H enc _ => lifted os started H enc)
end Go.Proofs.Ytfdpieeopdhcmaa.exactOrderUpTo
