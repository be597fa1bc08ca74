/- FnExactParcelStocks: for all arguments, impl.ParcelStocks answers as spec.ParcelStocks, leaves its arguments as they were, and the law returns true. No condition. -/
import Derived.Test.YtnkbjliidenldaaAbLParcelStocks
import Derived.Test.YtnkbjliidenldaaAbHead
import Derived.Test.YtnkbjliidenldaaShell
import Derived.Test.YtnkbjliidenldaaOpen
import Derived.ShutString
namespace Go.Proofs.Ytnkbjliidenldaa.exactParcelStocks
open Go.ChangeShapes Go.WideShapes Go.ChangeAt Go.RowKit
open Go.WideMaps Go.WideElems
open Go.ChangeMaps (open_string shut_string)
set_option linter.unusedVariables false

theorem walk (x0 : Int) (v1 : Value) (d1 : List Pc) (v2 : Value) (d2 : List Int) (w : World) (wx0 : (Lit.int .i64 x0).wf = true) (hk1 : PcsIn w v1 d1) (hk2 : IntsIn w v2 d2) :
    Calls Try.prog 17 #[.int .i64 x0, v1, v2] w fun e w' => e = .returned (.bool true) ∧ Below w.heap.size w w' := by
  obtain ⟨ρ1, _, ⟨p1, g1, n1, rfl⟩, y1, q1, r1⟩ := Ab.argParcels (Ab.MRel.start w (Ab.tab_none rfl)) hk1
  obtain ⟨ρ2, _, ⟨p2, g2, n2, rfl⟩, y2, q2, r2⟩ := Ab.argI2 g1 hk2
  exact Ab.law_calls (Ab.law_FnExactParcelStocks _ x0 d1 y1 d2 y2 (r1.ext n2) r2) g2 (Ab.VL.cons (.int _ _) (Ab.VL.cons (q1.mono p2) (Ab.VL.cons q2 (Ab.VL.nil _))))

set_option maxRecDepth 100000 in
theorem lifted (os : Os) (started : os.Started) (H : Type) (enc : TypeId × Value → H) :
    ReturnsInHanded {} Try.checked os 17 .any (Rows.fnExactParcelStocksSpec.pre6 enc Try.prog Try.f17 Rows.fnExactParcelStocksRow.domain false) (Rows.fnExactParcelStocksSpec.post enc Try.prog Try.f17 false true false false) := by
  refine returnsInHanded_of_change (C := Try.checked) own started (by kernel_rfl) Try.func17
    (ChangeSpec.witness6 (enc := enc) (C := Try.checked) false ⟨#[], #[.int .i64 0, .slice none 0 0, .slice none 0 0], []⟩ 8 (by kernel_rfl) (by kernel_rfl) (by kernel_rfl) (by kernel_rfl)) ?_
  intro W base args ds gs before hval0 hW hcnd _
  have hval : ∀ (j : Nat) t v, Try.f17.params[j]? = some t → args[j]? = some v → Value.okWide Try.prog W .any base t v := hval0
  have hW' := hW
  obtain ⟨p, q, hA0, hV, rfl, hfz, hnd⟩ := hW
  have hA : DataW.TrodAll enc Try.prog W 0 (fun _ => true) true Try.f17.params.toList args.toList ds p := hA0
  rw [Try.params17] at hA hval
  obtain ⟨v0, v1, v2, d0, d1, d2, p0, p1, p2, rfl, rfl, rfl, h0, h1, h2⟩ := trodAll_three hA
  obtain ⟨rfl, rfl⟩ := trodVars_none hV
  obtain ⟨x0, rfl, rfl, rfl, wx0⟩ := open_int Try.underlying3 (hval 0 3 v0 rfl rfl) h0
  obtain ⟨d1, hk1⟩ := open_parcels (hval 1 63 v1 rfl rfl) h1
  obtain ⟨d2, hk2, hwf2⟩ := open_ints_in (hval 2 22 v2 rfl rfl) h2
  clear hA0 hval0
  refine (walk x0 v1 d1 v2 d2 W wx0 hk1 hk2).mono fun e W' ⟨he, hb⟩ => ?_
  subst he
  exact ⟨_, rfl, law_post (s := Rows.fnExactParcelStocksSpec) laidOut (by kernel_rfl) (by rfl) Try.underlying4 rfl (fun xs hx => by match xs, hx with | [_, _, _], _ => rfl) hW' hb⟩

set_option maxRecDepth 100000 in
theorem facts : joinedFacts Try.prog 17 Try.f17 Rows.fnExactParcelStocksSpec Rows.fnExactParcelStocksRow = true := by
  unfold joinedFacts
  rw [Ab.enters, Ab.no_finals, Ab.makes]
  kernel_rfl

theorem proved : Rows.FnExactParcelStocksSaid :=
  OpenClaim.holds_of_wide 17 Try.f17 rfl rfl rfl rfl rfl rfl rfl ⟨rfl, rfl, rfl, rfl, rfl⟩ rfl rfl rfl rfl rfl (by kernel_rfl) Try.func17 facts
    (of_decide_eq_true (by kernel_rfl)) (by unfold Func.isWrapper; first | (rw [if_pos (by decide +kernel)]; kernel_rfl) | (rw [if_neg (by decide +kernel)]; exact ⟨rfl, rfl⟩))
    (fun os started H enc _ => lifted os started H enc)
end Go.Proofs.Ytnkbjliidenldaa.exactParcelStocks
