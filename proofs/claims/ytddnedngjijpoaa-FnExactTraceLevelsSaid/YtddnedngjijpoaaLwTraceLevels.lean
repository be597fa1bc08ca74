/- FnExactTraceLevels: for all arguments, impl.TraceLevels answers as spec.TraceLevels, leaves its arguments as they were, and the law returns true. No condition. -/
import Derived.Test.YtddnedngjijpoaaAbLTraceLevels
import Derived.Test.YtddnedngjijpoaaAbHead
import Derived.Test.YtddnedngjijpoaaMany
import Derived.Test.YtddnedngjijpoaaShell
import Derived.Test.YtddnedngjijpoaaOpen
import Derived.ShutString
namespace Go.Proofs.Ytddnedngjijpoaa.exactTraceLevels
open Go.ChangeShapes Go.WideShapes Go.ChangeAt Go.RowKit
open Go.WideMaps Go.WideElems
open Go.ChangeMaps (open_string shut_string)
set_option linter.unusedVariables false

theorem walk (v0 : Value) (d0 : Pr) (v1 : Value) (d1 : List (Int × Int)) (x2 : Int) (v3 : Value) (d3 : List Int) (w : World) (hk0 : ProcIn w v0 d0) (hk1 : PairsIn w v1 d1) (wx2 : (Lit.int .i64 x2).wf = true) (hk3 : IntsIn w v3 d3) :
    Calls Try.prog 16 #[v0, v1, .int .i64 x2, v3] w fun e w' => e = .returned (.bool true) ∧ Below w.heap.size w w' := by
  obtain ⟨ρ0, _, ⟨p0, g0, n0, rfl⟩, y0, q0, r0⟩ := Ab.argProc (Ab.MRel.start w) hk0
  obtain ⟨ρ1, _, ⟨p1, g1, n1, rfl⟩, y1, q1, r1⟩ := Ab.argPairs g0 hk1
  obtain ⟨ρ3, _, ⟨p3, g3, n3, rfl⟩, y3, q3, r3⟩ := Ab.argI2 g1 hk3
  exact Ab.law_calls (Ab.law_FnExactTraceLevels _ d0 y0 d1 y1 x2 d3 y3 ((r0.ext n1).ext n3) (r1.ext n3) r3) g3 (Ab.VL.cons ((q0.mono p1).mono p3) (Ab.VL.cons (q1.mono p3) (Ab.VL.cons (.int _ _) (Ab.VL.cons q3 (Ab.VL.nil _)))))

set_option maxRecDepth 100000 in
theorem lifted (os : Os) (started : os.Started) (H : Type) (enc : TypeId × Value → H) :
    ReturnsInHanded {} Try.checked os 16 .any (Rows.fnExactTraceLevelsSpec.pre6 enc Try.prog Try.f16 Rows.fnExactTraceLevelsRow.domain false) (Rows.fnExactTraceLevelsSpec.post enc Try.prog Try.f16 false true false false) := by
  refine returnsInHanded_of_change (C := Try.checked) own started (by kernel_rfl) Try.func16
    (ChangeSpec.witness6 (enc := enc) (C := Try.checked) false ⟨#[], #[.agg #[.int .i64 0, .slice none 0 0, .int .i64 0, .int .i64 0, .int .i64 0, .int .i64 0], .slice none 0 0, .int .i64 0, .slice none 0 0], []⟩ 8 (by kernel_rfl) (by kernel_rfl) (by kernel_rfl) (by kernel_rfl)) ?_
  intro W base args ds gs before hval0 hW hcnd _
  have hval : ∀ (j : Nat) t v, Try.f16.params[j]? = some t → args[j]? = some v → Value.okWide Try.prog W .any base t v := hval0
  have hW' := hW
  obtain ⟨p, q, hA0, hV, rfl, hfz, hnd⟩ := hW
  have hA : DataW.TrodAll enc Try.prog W 0 (fun _ => true) true Try.f16.params.toList args.toList ds p := hA0
  rw [Try.params16] at hA hval
  obtain ⟨v0, v1, v2, v3, d0, d1, d2, d3, p0, p1, p2, p3, rfl, rfl, rfl, h0, h1, h2, h3⟩ := trodAll_four hA
  obtain ⟨rfl, rfl⟩ := trodVars_none hV
  obtain ⟨d0, hk0⟩ := open_process (hval 0 57 v0 rfl rfl) h0
  obtain ⟨d1, hk1⟩ := open_pairs (hval 1 27 v1 rfl rfl) h1
  obtain ⟨x2, rfl, rfl, rfl, wx2⟩ := open_int Try.underlying3 (hval 2 3 v2 rfl rfl) h2
  obtain ⟨d3, hk3, hwf3⟩ := open_ints_in (hval 3 24 v3 rfl rfl) h3
  clear hA0 hval0
  refine (walk v0 d0 v1 d1 x2 v3 d3 W hk0 hk1 wx2 hk3).mono fun e W' ⟨he, hb⟩ => ?_
  subst he
  exact ⟨_, rfl, law_post (s := Rows.fnExactTraceLevelsSpec) laidOut (by kernel_rfl) (by rfl) Try.underlying4 rfl (fun xs hx => by match xs, hx with | [_, _, _, _], _ => rfl) hW' hb⟩

set_option maxRecDepth 100000 in
theorem facts : joinedFacts Try.prog 16 Try.f16 Rows.fnExactTraceLevelsSpec Rows.fnExactTraceLevelsRow = true := by
  unfold joinedFacts
  rw [Ab.enters, Ab.no_finals, Ab.makes]
  kernel_rfl

theorem proved : Rows.FnExactTraceLevelsSaid :=
  OpenClaim.holds_of_wide 16 Try.f16 rfl rfl rfl rfl rfl rfl rfl ⟨rfl, rfl, rfl, rfl, rfl⟩ rfl rfl rfl rfl rfl (by kernel_rfl) Try.func16 facts
    (of_decide_eq_true (by kernel_rfl)) (by unfold Func.isWrapper; first | (rw [if_pos (by decide +kernel)]; kernel_rfl) | (rw [if_neg (by decide +kernel)]; exact ⟨rfl, rfl⟩))
    (fun os started H enc _ => lifted os started H enc)
end Go.Proofs.Ytddnedngjijpoaa.exactTraceLevels
