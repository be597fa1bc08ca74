/- slices.Clone of numbers: a row of one's own, whatever came in. -/
import Derived.Test.YtnkbjliidenldaaAbEarly
import Derived.Test.YtnkbjliidenldaaShelf
namespace Go.Proofs.Ytnkbjliidenldaa.Ab
open Go Go.RowKit
set_option linter.unusedVariables false
set_option linter.unusedSimpArgs false

theorem VL.one1 {ρ : Places} {x : Value} {cs : List Value} (h : VL ρ [x] cs) : ∃ y, cs = [y] ∧ VR ρ x y := by
  obtain ⟨hl, hp⟩ := h
  match cs, hl with
  | [y], _ => exact ⟨y, rfl, hp 0 x y rfl rfl⟩
theorem FnOk.fn {P : Program} {f : FuncId} {n : Nat} {c : ACode} {res : List ARes} (hf : FnOk P f n c res) : ∃ fn, P.funcs[f]? = some fn ∧ (fn.name == "runtime.NumGoroutine") = false ∧ fn.body.isNone = false := by
  obtain ⟨fn, C, hfn, hname, hb, _⟩ := hf.ok
  exact ⟨fn, hfn, hname, by rw [hb]; rfl⟩
theorem VR.empty {ρ : Places} {id c : Nat} {A : Option Addr} {p : Nat × Nat × Nat} (h : ρ[id]? = some p) (hc : c ≤ maxLen) : VR ρ (.slice (some ⟨id, 0, none⟩) 0 0) (.slice A 0 c) := by
  obtain ⟨b, o, t⟩ := p
  exact .sl h (Nat.zero_le _) hc (fun _ h => absurd h (by omega)) (fun h => absurd h (by omega))
theorem clone0_rc (m : Mem) (v : Value) (hv : v = .slice none 0 0 ∨ ∃ id off fl, v = .slice (some ⟨id, off, none⟩) 0 fl) : RC Try.prog 125 [v] m (AnsR m []) := by
  refine ⟨ok_slices_Clone.fn, fun ρ w cargs hm ha => ?_⟩
  obtain ⟨y, rfl, hy⟩ := ha.one1
  have hs : ∃ A c, y = .slice A 0 c := by
    rcases hv with rfl | ⟨id, off, fl, rfl⟩
    · cases hy; exact ⟨_, _, rfl⟩
    · cases hy; exact ⟨_, _, rfl⟩
  obtain ⟨A, c, rfl⟩ := hs
  have fin : ∀ (A' : Option Addr) (c' : Nat) (w' : World), c' ≤ maxLen → Below w.heap.size w w' → ∃ v v' new ρn, Ending.returned (.slice A' 0 c') = .returned v' ∧ AnsR m [] v new ∧ NoRo new ∧ MRel w w.heap.size (ρ ++ ρn) (roM m ++ new) w' ∧ VR (ρ ++ ρn) v v' := by
    intro A' c' w' hc hb
    have hm2 := hm.keep hb
    have hm3 := hm2.add (e := 3) (xs := []) (g := 0) (tot := 0) (by simp) (fun h => absurd h (by omega)) (fun h => absurd h (by omega))
    refine ⟨.slice (some ⟨m.length, 0, none⟩) 0 0, _, [⟨.own, 3, []⟩], [(0, 0, 0)], rfl, ⟨noRo_own noRo_nil, by simp, 0, 0, rfl, rfl⟩, noRo_own noRo_nil, hm3, ?_⟩
    have hlen : ρ.length = m.length := by rw [hm.len]; simp [roM_len]
    exact VR.empty (p := (0, 0, 0)) (by rw [← hlen]; simp) hc
  cases A with
  | none =>
    refine (Try.slices_Clone_int_nil 0 c w).mono ?_
    rintro e w' ⟨rfl, rfl⟩
    exact fin none 0 _ (Nat.zero_le _) (Below.refl _ _)
  | some a =>
    refine (Try.slices_Clone_int_zero a c w).mono ?_
    rintro e w' ⟨v', rfl, ho, hn, hb⟩
    rcases ho.2 with ⟨rfl, _⟩ | ⟨g, cap, cur, rfl, _, _, _, hc, _⟩
    · exact fin none 0 w' (Nat.zero_le _) hb
    · exact fin _ cap w' hc hb
theorem clone_rc (m : Mem) (v : Value) (l : List Int) (h : IntsA m v l) (hl : l.length ≤ 1048576) : RC Try.prog 125 [v] m (AnsR m l) := by
  by_cases h0 : l = []
  · subst h0
    refine clone0_rc m v ?_
    rcases h.form with ⟨rfl, _⟩ | ⟨id, off, fl, rfl⟩
    · exact .inl rfl
    · exact .inr ⟨id, off, fl, rfl⟩
  · have hpos : 0 < l.length := List.length_pos_iff.2 h0
    refine rc_of_run mixed ok_slices_Clone (by simp) (go_start _ _ _ ?_)
    have hr := h.ro
    have ha := app_own hr hl
    rw [roM_len] at ha
    have hsl : slnA false v = some (.bool false) := by
      rcases h.form with ⟨_, e⟩ | ⟨id, off, fl, rfl⟩
      · exact absurd e h0
      · obtain ⟨n, hn⟩ : ∃ n, l.length = n + 1 := ⟨l.length - 1, by omega⟩
        rw [hn]; rfl
    simp (config := {implicitDefEqProofs := false, maxDischargeDepth := 20}) (disch := first | omega | (simp only [lenE]; done) | (simp only [lenE]; omega) | rfl | (simp only [lenE, markR_len]; done) | (simp only [lenE, markR_len]; omega)) only [runE, mapE, listE, initT_5, initT_6, initT_7, initT_8, resV, oneV, binA, unA, reduceCtorEq, Nat.reduceEqDiff, Nat.reduceAdd, Nat.reduceLT, Nat.reduceLeDiff, Nat.reduceMul, Nat.reduceSub, ↓reduceIte, decide_true, decide_false, Bool.true_eq_false, Bool.false_eq_true, Bool.not_true, Bool.not_false, if_true, if_false, and_true, true_and, memE, celE, w64, Nat.zero_add, Nat.add_zero, Nat.mul_one, putL, and_self, ldn, c_slices_Clone, r_slices_Clone, hsl, bsl_none', ha]
    exact ext_ansR (((Ext.refl m).app (noRo_dead noRo_nil)).one _ _) (OwnR.end' (by simp [roM_len])) (by omega) rfl hl
end Go.Proofs.Ytnkbjliidenldaa.Ab
