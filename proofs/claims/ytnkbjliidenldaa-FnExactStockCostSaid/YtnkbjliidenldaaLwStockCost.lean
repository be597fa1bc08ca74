/- FnExactStockCost: for all arguments, impl.StockCost answers as spec.StockCost, leaves its arguments as they were, and the law returns true. No condition. -/
import Derived.Test.YtnkbjliidenldaaAbLStockCost
import Derived.Test.YtnkbjliidenldaaAbHead
import Derived.Test.YtnkbjliidenldaaShell
import Derived.Test.YtnkbjliidenldaaOpen
import Derived.ShutString
namespace Go.Proofs.Ytnkbjliidenldaa.exactStockCost
open Go.ChangeShapes Go.WideShapes Go.ChangeAt Go.RowKit
open Go.WideMaps Go.WideElems
open Go.ChangeMaps (open_string shut_string)
set_option linter.unusedVariables false

theorem walk (v0 : Value) (d0 : List Int) (x1 : Int) (x2 : Int) (w : World) (hk0 : IntsIn w v0 d0) (wx1 : (Lit.int .i64 x1).wf = true) (wx2 : (Lit.int .i64 x2).wf = true) :
    Calls Try.prog 11 #[v0, .int .i64 x1, .int .i64 x2] w fun e w' => e = .returned (.bool true) ∧ Below w.heap.size w w' := by
  obtain ⟨ρ0, _, ⟨p0, g0, n0, rfl⟩, y0, q0, r0⟩ := Ab.argI2 (Ab.MRel.start w (Ab.tab_none rfl)) hk0
  exact Ab.law_calls (Ab.law_FnExactStockCost _ d0 y0 x1 x2 r0) g0 (Ab.VL.cons q0 (Ab.VL.cons (.int _ _) (Ab.VL.cons (.int _ _) (Ab.VL.nil _))))

set_option maxRecDepth 100000 in
theorem lifted (os : Os) (started : os.Started) (H : Type) (enc : TypeId × Value → H) :
    ReturnsInHanded {} Try.checked os 11 .any (Rows.fnExactStockCostSpec.pre6 enc Try.prog Try.f11 Rows.fnExactStockCostRow.domain false) (Rows.fnExactStockCostSpec.post enc Try.prog Try.f11 false true false false) := by
  refine returnsInHanded_of_change (C := Try.checked) own started (by kernel_rfl) Try.func11
    (ChangeSpec.witness6 (enc := enc) (C := Try.checked) false ⟨#[], #[.slice none 0 0, .int .i64 0, .int .i64 0], []⟩ 8 (by kernel_rfl) (by kernel_rfl) (by kernel_rfl) (by kernel_rfl)) ?_
  intro W base args ds gs before hval0 hW hcnd _
  have hval : ∀ (j : Nat) t v, Try.f11.params[j]? = some t → args[j]? = some v → Value.okWide Try.prog W .any base t v := hval0
  have hW' := hW
  obtain ⟨p, q, hA0, hV, rfl, hfz, hnd⟩ := hW
  have hA : DataW.TrodAll enc Try.prog W 0 (fun _ => true) true Try.f11.params.toList args.toList ds p := hA0
  rw [Try.params11] at hA hval
  obtain ⟨v0, v1, v2, d0, d1, d2, p0, p1, p2, rfl, rfl, rfl, h0, h1, h2⟩ := trodAll_three hA
  obtain ⟨rfl, rfl⟩ := trodVars_none hV
  obtain ⟨d0, hk0, hwf0⟩ := open_ints_in (hval 0 22 v0 rfl rfl) h0
  obtain ⟨x1, rfl, rfl, rfl, wx1⟩ := open_int Try.underlying3 (hval 1 3 v1 rfl rfl) h1
  obtain ⟨x2, rfl, rfl, rfl, wx2⟩ := open_int Try.underlying3 (hval 2 3 v2 rfl rfl) h2
  clear hA0 hval0
  refine (walk v0 d0 x1 x2 W hk0 wx1 wx2).mono fun e W' ⟨he, hb⟩ => ?_
  subst he
  exact ⟨_, rfl, law_post (s := Rows.fnExactStockCostSpec) laidOut (by kernel_rfl) (by rfl) Try.underlying4 rfl (fun xs hx => by match xs, hx with | [_, _, _], _ => rfl) hW' hb⟩

set_option maxRecDepth 100000 in
theorem facts : joinedFacts Try.prog 11 Try.f11 Rows.fnExactStockCostSpec Rows.fnExactStockCostRow = true := by
  unfold joinedFacts
  rw [Ab.enters, Ab.no_finals, Ab.makes]
  kernel_rfl

theorem proved : Rows.FnExactStockCostSaid :=
  OpenClaim.holds_of_wide 11 Try.f11 rfl rfl rfl rfl rfl rfl rfl ⟨rfl, rfl, rfl, rfl, rfl⟩ rfl rfl rfl rfl rfl (by kernel_rfl) Try.func11 facts
    (of_decide_eq_true (by kernel_rfl)) (by unfold Func.isWrapper; first | (rw [if_pos (by decide +kernel)]; kernel_rfl) | (rw [if_neg (by decide +kernel)]; exact ⟨rfl, rfl⟩))
    (fun os started H enc _ => lifted os started H enc)
end Go.Proofs.Ytnkbjliidenldaa.exactStockCost
