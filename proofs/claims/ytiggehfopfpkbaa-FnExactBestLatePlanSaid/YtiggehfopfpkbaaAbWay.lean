/- The search for best amounts in memory: its rows, and the best way from a period on. -/
import Derived.Test.YtiggehfopfpkbaaAbTab
namespace Go.Proofs.Ytiggehfopfpkbaa.Ab
open Go Go.RowKit
set_option linter.unusedVariables false
set_option linter.unusedSimpArgs false

/-- A way's cells. -/
def WCell : Option (Int × Nat) → List Value
  | none => [.bool false, .int .i64 0, .int .i64 0]
  | some r => [.bool true, .int .i64 r.1, .int .i64 (r.2 : Nat)]
theorem WCell_len (o : Option (Int × Nat)) : (WCell o).length = 3 := by cases o <;> rfl
theorem WCell_ones (o : Option (Int × Nat)) : onesB (WCell o) = true := by cases o <;> rfl
theorem putL_app (A : List Value) : ∀ (vs B : List Value), vs.length ≤ B.length → putL (A ++ B) A.length vs = A ++ (vs ++ B.drop vs.length) := by
  intro vs
  induction vs generalizing A with
  | nil => intro B _; simp [putL]
  | cons x vs ih =>
    intro B h
    cases B with
    | nil => simp at h
    | cons b B =>
      rw [putL, List.set_append_right _ _ (Nat.le_refl _), Nat.sub_self, List.set_cons_zero]
      have := ih (A ++ [x]) B (by simpa using h)
      rw [List.length_append, List.length_singleton, List.append_assoc, List.singleton_append] at this
      rw [this]; simp
/-- A row of ways, the first j of which are known. -/
def rowW (f : Nat → Option (Int × Nat)) (n j : Nat) : List Value := ((List.range j).map fun o => WCell (f o)).flatten ++ repL (n - j) (WCell none)
theorem flat_len (f : Nat → Option (Int × Nat)) (j : Nat) : (((List.range j).map fun o => WCell (f o)).flatten).length = j * 3 := by
  induction j with
  | zero => rfl
  | succ j ih => rw [List.range_succ, List.map_append, List.flatten_append, List.length_append, ih]; simp [WCell_len]; omega
theorem rowW_len (f : Nat → Option (Int × Nat)) {n j : Nat} (h : j ≤ n) : (rowW f n j).length = n * 3 := by
  unfold rowW
  rw [List.length_append, flat_len, repL_len, WCell_len, ← Nat.add_mul, Nat.add_sub_cancel' h]
theorem rowW_zero (f : Nat → Option (Int × Nat)) (n : Nat) : rowW f n 0 = repL n (WCell none) := by simp [rowW]
theorem rowW_put (f : Nat → Option (Int × Nat)) {n j : Nat} (h : j < n) : putL (rowW f n j) (j * 3) (WCell (f j)) = rowW f n (j + 1) := by
  unfold rowW
  have hl := flat_len f j
  obtain ⟨d, hd⟩ : ∃ d, n - j = d + 1 := ⟨n - j - 1, by omega⟩
  rw [← hl, hd, repL_succ, putL_app _ _ _ (by rw [List.length_append, WCell_len, WCell_len]; omega), WCell_len, List.range_succ, List.map_append, List.flatten_append, show n - (j + 1) = d by omega]
  simp [WCell]
theorem rowW_at (f : Nat → Option (Int × Nat)) {n : Nat} : ∀ j, j ≤ n → ∀ o, o < j → ∀ i, i < 3 → (rowW f n j)[o * 3 + i]? = (WCell (f o))[i]? := by
  intro j hj o ho i hi
  unfold rowW
  rw [List.getElem?_append_left (by rw [flat_len]; omega)]
  clear hj
  induction j with
  | zero => omega
  | succ j ih =>
    rw [List.range_succ, List.map_append, List.flatten_append]
    by_cases e : o = j
    · subst e
      rw [List.getElem?_append_right (by rw [flat_len]; omega), flat_len]
      simp
    · rw [List.getElem?_append_left (by rw [flat_len]; omega)]
      exact ih (by omega)

/-- What holds of a search's numbers. -/
structure SrchOk (w : Ws) (late : Bool) : Prop where
  ok : WsOk w
  l0 : late = false → w.lo = 0
  l1 : late = true → w.lo = -w.tot ∧ w.rates.length = w.n
/-- A search in memory, as a reading function sees it. -/
structure SrchA (w : Ws) (late : Bool) (v1 v2 v3 v4 lv rv wv : Value) (sp : Nat) (m : Mem) : Prop where
  f0 : rdc m sp 0 = some v1
  f1 : rdc m sp 1 = some v2
  f2 : rdc m sp 2 = some v3
  f3 : rdc m sp 3 = some v4
  f4 : rdc m sp 4 = some lv
  f5 : rdc m sp 5 = some rv
  f6 : rdc m sp 6 = some (.bool late)
  f7 : rdc m sp 7 = some wv
  hc : CaseA m (.agg #[v1, v2, v3, v4]) w.k
  hl : IntsA m lv w.lims
  hr : IntsA m rv w.rates
theorem rdc_roM' {m : Mem} {id k : Nat} {v : Value} (h : rdc m id k = some v) : rdc (roM m) id k = some v := by rw [rdc_roM]; exact h
theorem SrchA.ro {w : Ws} {late : Bool} {v1 v2 v3 v4 lv rv wv : Value} {sp : Nat} {m : Mem} (h : SrchA w late v1 v2 v3 v4 lv rv wv sp m) : SrchA w late v1 v2 v3 v4 lv rv wv sp (roM m) :=
  ⟨rdc_roM' h.f0, rdc_roM' h.f1, rdc_roM' h.f2, rdc_roM' h.f3, rdc_roM' h.f4, rdc_roM' h.f5, rdc_roM' h.f6, rdc_roM' h.f7, h.hc.ro, h.hl.ro, h.hr.ro⟩
theorem SrchA.grow {w : Ws} {late : Bool} {v1 v2 v3 v4 lv rv wv : Value} {sp : Nat} {m M : Mem} (h : SrchA w late v1 v2 v3 v4 lv rv wv sp m) (hx : Grow m M) : SrchA w late v1 v2 v3 v4 lv rv wv sp M :=
  ⟨hx.rd h.f0, hx.rd h.f1, hx.rd h.f2, hx.rd h.f3, hx.rd h.f4, hx.rd h.f5, hx.rd h.f6, hx.rd h.f7, hx.case h.hc, hx.ints h.hl, hx.ints h.hr⟩
/-- A row of ways in memory. -/
def RowAt (m : Mem) (rid : Nat) (f : Nat → Option (Int × Nat)) (n : Nat) : Prop := ∀ o, o < n → ∀ (i : Nat) (v : Value), (WCell (f o))[i]? = some v → rdc m rid (o * 3 + i) = some v
theorem RowAt.mono {m M : Mem} {rid : Nat} {f : Nat → Option (Int × Nat)} {n : Nat} (h : RowAt m rid f n) (hx : ∀ (id k : Nat) (v : Value), rdc m id k = some v → rdc M id k = some v) : RowAt M rid f n :=
  fun o ho i v hv => hx _ _ _ (h o ho i v hv)
theorem slc_none (sz : Nat) (v : Value) (hi : Option Value) (id off n fl : Nat) (hv : v = .slice (some ⟨id, off, none⟩) n fl) (x : Value) : slcA sz v (some (.int .i64 0)) hi = some x → ∃ y, slcA sz v none hi = some y := by
  subst hv
  intro h
  simp only [slcA, boundA] at h ⊢
  split at h
  · rename_i l h' h1 h2
    simp at h1
    subst h1
    rw [h2]
    simp only []
    split at h
    · rename_i hc
      exact ⟨_, if_pos hc⟩
    · cases h
  · cases h
/-- The numbers up to the one before hi. -/
theorem IntsA.pre {m : Mem} {v : Value} {l : List Int} (h : IntsA m v l) {hi : Nat} (h2 : hi ≤ l.length) :
    ∃ v', slcA 1 v none (some (.int .i64 hi)) = some v' ∧ IntsA m v' (cutL l 0 hi) := by
  obtain ⟨x, e, hx⟩ := h.cut (lo := 0) (Nat.zero_le hi) h2
  rcases h.form with ⟨rfl, rfl⟩ | ⟨id, off, fl, rfl⟩
  · have e1 : hi = 0 := by simpa using h2
    subst e1
    exact ⟨.slice none 0 0, rfl, IntsA.nil m⟩
  · have hs : slcA 1 (.slice (some ⟨id, off, none⟩) l.length fl) none (some (.int .i64 hi)) = some (.slice (some ⟨id, off, none⟩) hi fl) := by
      simp [slcA, boundA, h2]
    have hs2 : slcA 1 (.slice (some ⟨id, off, none⟩) l.length fl) (some (.int .i64 0)) (some (.int .i64 hi)) = some (.slice (some ⟨id, off, none⟩) hi 0) := by
      simp [slcA, boundA, h2]
    have e0 : (((0 : Nat) : Int)) = 0 := rfl
    rw [e0, hs2] at e
    cases e
    have hc : (cutL l 0 hi).length = hi := by rw [cutL_len h2, Nat.sub_zero]
    refine ⟨_, hs, ?_⟩
    have a := hx
    refine ⟨a.len, a.bd, fun k hk => ?_, fun k hk => ?_, ?_⟩
    · have := a.at_ k hk
      simp only [iadA, pAt] at this ⊢
      exact this
    · exact a.ld k hk
    · exact a.src
theorem st3 {M : Mem} {id : Nat} {t : TypeId} {a b c x y z : Value} (h : M[id]? = some ⟨.own, t, [a, b, c]⟩) (hs : onesB [x, y, z] = true) : stA M id 0 [x, y, z] = some (M.set id ⟨.own, t, [x, y, z]⟩) := by
  simp [stA, h, hs, putL]
end Go.Proofs.Ytiggehfopfpkbaa.Ab
