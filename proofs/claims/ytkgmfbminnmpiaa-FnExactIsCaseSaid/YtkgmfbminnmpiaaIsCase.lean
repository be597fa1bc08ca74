/- FnExactIsCase: for all arguments, impl.IsCase answers as spec.IsCase, leaves its arguments as they were, and the law returns true. No condition. -/
import Derived.Test.YtkgmfbminnmpiaaGood
import Derived.Test.YtkgmfbminnmpiaaBx
import Derived.Test.YtkgmfbminnmpiaaShell
import Derived.Deep.RegionHeld3
import Derived.Test.YtkgmfbminnmpiaaOpen
import Derived.ShutString
namespace Go.Proofs.Ytkgmfbminnmpiaa.exactIsCase
open Go.ChangeShapes Go.WideShapes Go.ChangeAt Go.RowKit
open Go.WideMaps Go.WideElems
open Go.ChangeMaps (open_string shut_string)
set_option linter.unusedVariables false

set_option maxHeartbeats 4000000 in
theorem walk (v0 : Value) (k0 : Cs) (w : World) (hk0 : CaseIn w v0 k0) :
    Calls Try.prog 3 #[v0] w fun e w' => e = .returned (.bool true) ∧ Below w.heap.size w w' := by
  have HA0 := Lib.hid hk0
  obtain ⟨p01, p02, p03, p04, rfl, -, -, -, -⟩ := hk0
  have HB := Lib.hid (Below.refl w.heap.size w)
  have HSZ : Hid (w.heap.size ≤ w.heap.size) := Nat.le_refl _
  have nb := (Below.refl w.heap.size w).alloc (Nat.le_refl _) (.cells #[p01, p02, p03, p04] 24)
  replace HB := Lib.hid (below_tr HB.out nb HB.out.size)
  replace HSZ := Lib.hid (And.intro HSZ.out nb.size)
  clear nb
  replace HSZ := Lib.hid (And.intro HSZ.out (show (w.alloc (.cells #[p01, p02, p03, p04] 24)).heap.size = w.heap.size + 1 by simp))
  have BXa0 := Lib.hid (Box4.new w 24 p01 p02 p03 p04)
  by_cases z0 : szC 1048576 k0 < 0
  · skip
    go_enter Try.func3, Try.ntmps3
    obtain ⟨ca01, ca02, ca03, ca04⟩ := BXa0.out.cells
    go_wp2_with fail
    clear ca01 ca02 ca03 ca04
    refine (szCase_any _ k0 1048576 _ (HA0.out.below HB.out) (by omega) (by omega)).mono ?_
    rintro e w1 ⟨rfl, b⟩
    replace HB := Lib.hid (below_tr HB.out b HB.out.size)
    replace BXa0 := Lib.hid (BXa0.out.below b (by have hz := HSZ.out; omega))
    replace HSZ := Lib.hid (And.intro HSZ.out b.size)
    clear b
    go_wp2
    go_ret
    exact ⟨rfl, HB.out⟩
  · have Z0 := szC_no z0
    have y0 : szC 1048576 k0 ≤ 1048576 := by omega
    have n01 : k0.need.length ≤ 1048576 := by omega
    have n02 : k0.setup.length ≤ 1048576 := by omega
    have n03 : k0.unit.length ≤ 1048576 := by omega
    have n04 : k0.hold.length ≤ 1048576 := by omega
    clear Z0
    have m0 : 0 ≤ k0.tot ∧ k0.tot ≤ 4194304 := by unfold Cs.tot; omega
    obtain ⟨x, hx, hS, hI⟩ := isCase_same k0
    have HS := Lib.hid hS
    have HI := Lib.hid hI
    clear hS hI
    obtain ⟨a1, rfl⟩ := hx
    go_enter Try.func3, Try.ntmps3
    obtain ⟨ca01, ca02, ca03, ca04⟩ := BXa0.out.cells
    go_wp2_with fail
    clear ca01 ca02 ca03 ca04
    refine (szCase_any _ k0 1048576 _ (HA0.out.below HB.out) (by omega) (by omega)).mono ?_
    rintro e w1 ⟨rfl, b⟩
    replace HB := Lib.hid (below_tr HB.out b HB.out.size)
    replace BXa0 := Lib.hid (BXa0.out.below b (by have hz := HSZ.out; omega))
    replace HSZ := Lib.hid (And.intro HSZ.out b.size)
    clear b
    obtain ⟨ca01, ca02, ca03, ca04⟩ := BXa0.out.cells
    go_wp2_with fail
    clear ca01 ca02 ca03 ca04
    refine (toCase_any _ k0 _ (HA0.out.below HB.out) n01 n02 n03 n04).mono ?_
    rintro e w2 ⟨u, rfl, o, b⟩
    obtain ⟨s0A1, s0r1, s0A2, s0r2, s0A3, s0r3, s0A4, s0r4, rfl⟩ := o.form
    have OWs0 := Lib.hid o
    clear o
    replace HB := Lib.hid (below_tr HB.out b HB.out.size)
    replace BXa0 := Lib.hid (BXa0.out.below b (by have hz := HSZ.out; omega))
    replace HSZ := Lib.hid (And.intro HSZ.out b.size)
    clear b
    go_wp2_with fail
    clear z0 y0
    refine (HS.out _ _ OWs0.out.ints).mono ?_
    rintro e w3 ⟨rfl, b⟩
    replace HB := Lib.hid (below_tr HB.out b HB.out.size)
    replace BXa0 := Lib.hid (BXa0.out.below b (by have hz := HSZ.out; omega))
    replace OWs0 := Lib.hid (OWs0.out.below b (by have hz := HSZ.out; omega))
    replace HSZ := Lib.hid (And.intro HSZ.out b.size)
    clear b
    clear OWs0
    obtain ⟨ca01, ca02, ca03, ca04⟩ := BXa0.out.cells
    go_wp2_with fail
    clear ca01 ca02 ca03 ca04
    refine (toCase_any _ k0 _ (HA0.out.below HB.out) n01 n02 n03 n04).mono ?_
    rintro e w4 ⟨u, rfl, o, b⟩
    obtain ⟨x0A1, x0r1, x0A2, x0r2, x0A3, x0r3, x0A4, x0r4, rfl⟩ := o.form
    have OWx0 := Lib.hid o
    clear o
    replace HB := Lib.hid (below_tr HB.out b HB.out.size)
    replace BXa0 := Lib.hid (BXa0.out.below b (by have hz := HSZ.out; omega))
    replace HSZ := Lib.hid (And.intro HSZ.out b.size)
    clear b
    have nb := (Below.refl w4.heap.size w4).alloc (Nat.le_refl _) (.cells #[(.slice x0A1 k0.need.length x0r1), (.slice x0A2 k0.setup.length x0r2), (.slice x0A3 k0.unit.length x0r3), (.slice x0A4 k0.hold.length x0r4)] 27)
    replace HB := Lib.hid (below_tr HB.out nb HB.out.size)
    replace BXa0 := Lib.hid (BXa0.out.below nb (by have hz := HSZ.out; omega))
    replace OWx0 := Lib.hid (OWx0.out.below nb (by have hz := HSZ.out; omega))
    replace HSZ := Lib.hid (And.intro HSZ.out nb.size)
    clear nb
    replace HSZ := Lib.hid (And.intro HSZ.out (show (w4.alloc (.cells #[(.slice x0A1 k0.need.length x0r1), (.slice x0A2 k0.setup.length x0r2), (.slice x0A3 k0.unit.length x0r3), (.slice x0A4 k0.hold.length x0r4)] 27)).heap.size = w4.heap.size + 1 by simp))
    have BXx0 := Lib.hid (Box4.new w4 27 (.slice x0A1 k0.need.length x0r1) (.slice x0A2 k0.setup.length x0r2) (.slice x0A3 k0.unit.length x0r3) (.slice x0A4 k0.hold.length x0r4))
    obtain ⟨cx01, cx02, cx03, cx04⟩ := BXx0.out.cells
    go_wp2_with fail
    clear cx01 cx02 cx03 cx04
    refine (HI.out _ _ OWx0.out.ints).mono ?_
    rintro e w5 ⟨rfl, b⟩
    replace HB := Lib.hid (below_tr HB.out b HB.out.size)
    replace BXa0 := Lib.hid (BXa0.out.below b (by have hz := HSZ.out; omega))
    replace BXx0 := Lib.hid (BXx0.out.below b (by have hz := HSZ.out; omega))
    replace OWx0 := Lib.hid (OWx0.out.below b (by have hz := HSZ.out; omega))
    replace HSZ := Lib.hid (And.intro HSZ.out b.size)
    clear b
    have HK : Hid (∀ wx, Below w5.heap.size w5 wx → Below w5.heap.size w5 wx ∧ wx.cell? ⟨w4.heap.size, 0, none⟩ = some (.slice x0A1 k0.need.length x0r1) ∧ wx.cell? ⟨w4.heap.size, 1, none⟩ = some (.slice x0A2 k0.setup.length x0r2) ∧ wx.cell? ⟨w4.heap.size, 2, none⟩ = some (.slice x0A3 k0.unit.length x0r3) ∧ wx.cell? ⟨w4.heap.size, 3, none⟩ = some (.slice x0A4 k0.hold.length x0r4) ∧ wx.cell? ⟨w.heap.size, 0, none⟩ = some p01 ∧ wx.cell? ⟨w.heap.size, 1, none⟩ = some p02 ∧ wx.cell? ⟨w.heap.size, 2, none⟩ = some p03 ∧ wx.cell? ⟨w.heap.size, 3, none⟩ = some p04) := by
      intro wx hb
      have q1 := (BXx0.out.below hb (by have hz := HSZ.out; omega)).cells
      have q2 := (BXa0.out.below hb (by have hz := HSZ.out; omega)).cells
      exact ⟨hb, q1.1, q1.2.1, q1.2.2.1, q1.2.2.2, q2.1, q2.2.1, q2.2.2.1, q2.2.2.2⟩
    have TC : Hid (∀ wx, Below w5.heap.size w5 wx → Calls Try.prog 17 #[.agg #[p01, p02, p03, p04]] wx fun e w' => ∃ B1 t1 B2 t2 B3 t3 B4 t4, e = .returned (.agg #[.slice B1 k0.need.length t1, .slice B2 k0.setup.length t2, .slice B3 k0.unit.length t3, .slice B4 k0.hold.length t4]) ∧ Below w5.heap.size w5 w' ∧ Hid (CaseIn w' (.agg #[.slice B1 k0.need.length t1, .slice B2 k0.setup.length t2, .slice B3 k0.unit.length t3, .slice B4 k0.hold.length t4]) k0)) := by
      intro wx hb
      refine (toCase_any _ k0 _ (HA0.out.below (below_tr HB.out hb HB.out.size)) n01 n02 n03 n04).mono ?_
      rintro e w' ⟨u, rfl, o, b⟩
      obtain ⟨B1, t1, B2, t2, B3, t3, B4, t4, rfl⟩ := o.form
      exact ⟨B1, t1, B2, t2, B3, t3, B4, t4, rfl, below_tr hb b hb.size, o.ints⟩
    have EC : Hid (∀ wx y, Below w5.heap.size w5 wx → CaseIn wx y k0 → Calls Try.prog 19 #[.agg #[(.slice x0A1 k0.need.length x0r1), (.slice x0A2 k0.setup.length x0r2), (.slice x0A3 k0.unit.length x0r3), (.slice x0A4 k0.hold.length x0r4)], y] wx fun e w' => e = .returned (.bool true) ∧ Below w5.heap.size w5 w') := by
      intro wx y hb hy
      refine (eqCase_yes _ y k0 _ (OWx0.out.below hb (by have hz := HSZ.out; omega)).ints hy).mono ?_
      rintro e w' ⟨rfl, b⟩
      exact ⟨rfl, below_tr hb b hb.size⟩
    have hd0 := HK.out _ (below_drew w5.heap.size w5)
    go_wp2_with fail
    go_region_held3 (fun wx => Below w5.heap.size w5 wx ∧ wx.cell? ⟨w4.heap.size, 0, none⟩ = some (.slice x0A1 k0.need.length x0r1) ∧ wx.cell? ⟨w4.heap.size, 1, none⟩ = some (.slice x0A2 k0.setup.length x0r2) ∧ wx.cell? ⟨w4.heap.size, 2, none⟩ = some (.slice x0A3 k0.unit.length x0r3) ∧ wx.cell? ⟨w4.heap.size, 3, none⟩ = some (.slice x0A4 k0.hold.length x0r4) ∧ wx.cell? ⟨w.heap.size, 0, none⟩ = some p01 ∧ wx.cell? ⟨w.heap.size, 1, none⟩ = some p02 ∧ wx.cell? ⟨w.heap.size, 2, none⟩ = some p03 ∧ wx.cell? ⟨w.heap.size, 3, none⟩ = some p04) (first | exact hd0 | exact HK.out _ ‹_› | (go_keep)) (first | (go_at_call 17; refine (TC.out _ (by first | exact (below_drew _ _) | assumption)).mono ?_; rintro e wt ⟨B1, t1, B2, t2, B3, t3, B4, t4, rfl, hbt, hct⟩) | (go_at_call 19; refine (EC.out _ _ hbt hct.out).mono ?_; rintro e wu ⟨rfl, hbu⟩))
    clear HK TC EC hd0
    have b := hbu
    clear hbu hct hbt
    replace HB := Lib.hid (below_tr HB.out b HB.out.size)
    replace BXa0 := Lib.hid (BXa0.out.below b (by have hz := HSZ.out; omega))
    replace BXx0 := Lib.hid (BXx0.out.below b (by have hz := HSZ.out; omega))
    replace OWx0 := Lib.hid (OWx0.out.below b (by have hz := HSZ.out; omega))
    replace HSZ := Lib.hid (And.intro HSZ.out b.size)
    clear b
    obtain ⟨w6, hw⟩ : ∃ q, q = wu := ⟨_, rfl⟩
    subst hw
    skip
    go_wp2
    go_ret
    exact ⟨rfl, HB.out⟩

set_option maxRecDepth 100000 in
theorem lifted (os : Os) (started : os.Started) (H : Type) (enc : TypeId × Value → H) :
    ReturnsInHanded {} Try.checked os 3 .any (Rows.fnExactIsCaseSpec.pre6 enc Try.prog Try.f3 Rows.fnExactIsCaseRow.domain false) (Rows.fnExactIsCaseSpec.post enc Try.prog Try.f3 false true false false) := by
  refine returnsInHanded_of_change (C := Try.checked) own started (by kernel_rfl) Try.func3
    (ChangeSpec.witness6 (enc := enc) (C := Try.checked) false ⟨#[], #[.agg #[.slice none 0 0, .slice none 0 0, .slice none 0 0, .slice none 0 0]], []⟩ 8 (by kernel_rfl) (by kernel_rfl) (by kernel_rfl) (by kernel_rfl)) ?_
  intro W base args ds gs before hval0 hW hcnd _
  have hval : ∀ (j : Nat) t v, Try.f3.params[j]? = some t → args[j]? = some v → Value.okWide Try.prog W .any base t v := hval0
  have hW' := hW
  obtain ⟨p, q, hA0, hV, rfl, hfz, hnd⟩ := hW
  have hA : DataW.TrodAll enc Try.prog W 0 (fun _ => true) true Try.f3.params.toList args.toList ds p := hA0
  rw [Try.params3] at hA hval
  obtain ⟨v0, d0, rfl, rfl, h0⟩ := trodAll_one hA
  obtain ⟨rfl, rfl⟩ := trodVars_none hV
  obtain ⟨k0, hk0⟩ := open_case (hval 0 24 v0 rfl rfl) h0
  clear hA0 hval0
  refine (walk v0 k0 W hk0).mono fun e W' ⟨he, hb⟩ => ?_
  subst he
  exact ⟨_, rfl, law_post (s := Rows.fnExactIsCaseSpec) laidOut (by kernel_rfl) (by rfl) Try.underlying4 rfl (fun xs hx => by match xs, hx with | [_], _ => rfl) hW' hb⟩

theorem proved : Rows.FnExactIsCaseSaid :=
  OpenClaim.holds_of_wide 3 Try.f3 rfl rfl rfl rfl rfl rfl rfl ⟨rfl, rfl, rfl, rfl, rfl⟩ rfl rfl rfl rfl rfl (by kernel_rfl) Try.func3 (by kernel_rfl)
    (of_decide_eq_true (by kernel_rfl)) (by unfold Func.isWrapper; first | (rw [if_pos (by decide +kernel)]; kernel_rfl) | (rw [if_neg (by decide +kernel)]; exact ⟨rfl, rfl⟩))
    (fun os started H enc _ => lifted os started H enc)
end Go.Proofs.Ytkgmfbminnmpiaa.exactIsCase
