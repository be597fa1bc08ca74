/- Blocks of any cells; rows of rows. -/
import Derived.Test.YtiggehfopfpkbaaAbLcost
namespace Go.Proofs.Ytiggehfopfpkbaa.Ab
open Go Go.RowKit
set_option linter.unusedVariables false
set_option linter.unusedSimpArgs false

/-- A block of one's own. -/
def Own (M : Mem) (id : Nat) (e : TypeId) (cs : List Value) : Prop := M[id]? = some ⟨.own, e, cs⟩
section
variable {M M' : Mem} {id id' : Nat} {e e' : TypeId} {cs cs' : List Value}
theorem Own.lt (h : Own M id e cs) : id < M.length := (List.getElem?_eq_some_iff.1 h).1
theorem Own.ext (h : Own M id e cs) (R : Mem) : Own (M ++ R) id e cs := by
  unfold Own; rw [List.getElem?_append_left h.lt]; exact h
theorem Own.set_ne (h : Own M id' e cs) (hne : id ≠ id') (b : Blk) : Own (M.set id b) id' e cs := by
  unfold Own; rw [List.getElem?_set_ne hne]; exact h
theorem Own.set_self (h : Own M id e cs) (e' : TypeId) (cs' : List Value) : Own (M.set id ⟨.own, e', cs'⟩) id e' cs' := by
  unfold Own; rw [List.getElem?_set_self h.lt]
theorem Own.ne (h : Own M id e cs) (h' : Own M id' e' cs') (he : e ≠ e') : id ≠ id' := fun hi => by
  subst hi
  unfold Own at h h'
  rw [h] at h'
  cases h'
  exact he rfl
theorem Own.rd (h : Own M id e cs) (k : Nat) : rdc M id k = cs[k]? := by
  unfold Own at h; simp [rdc, h]
theorem Own.end' (h : id = M.length) : Own (M ++ [⟨.own, e, cs⟩]) id e cs := by unfold Own; rw [h]; simp
theorem Own.grow (h : Own M id e cs) (hx : Grow M M') : Own M' id e cs := by
  obtain ⟨R, rfl, _⟩ := hx; exact h.ext R
theorem Own.st (h : Own M id e cs) {off : Nat} {vs : List Value} (h2 : off + vs.length ≤ cs.length) (h1 : onesB vs = true) : stA M id off vs = some (M.set id ⟨.own, e, putL cs off vs⟩) := by
  unfold Own at h; simp [stA, h, h1, h2]
theorem Own.rdl (h : Own M id e cs) {k : Nat} (hk : k = cs.length) : rdl M id 0 k = some cs := by
  unfold Own at h
  subst hk
  simp [Ab.rdl, h]
end
theorem rdc_blk' {m : Mem} {id k : Nat} {v : Value} (h : rdc m id k = some v) : ∃ b, m[id]? = some b ∧ b.kd ≠ .dead := by
  unfold rdc at h
  cases hm : m[id]? with
  | none => rw [hm] at h; cases h
  | some b =>
    rw [hm] at h
    refine ⟨b, rfl, fun e => ?_⟩
    simp only [e, if_true] at h
    cases h
theorem rdc_lt' {m : Mem} {id k : Nat} {v : Value} (h : rdc m id k = some v) : id < m.length := by
  obtain ⟨b, hb, _⟩ := rdc_blk' h
  exact (List.getElem?_eq_some_iff.1 hb).1
theorem initT_5 (x y z u v a : Value) (xs : List Value) : initT (x :: y :: z :: u :: v :: a :: xs) 5 = a := rfl
theorem initT_6 (x y z u v a b : Value) (xs : List Value) : initT (x :: y :: z :: u :: v :: a :: b :: xs) 6 = b := rfl
theorem nilc1 (a : Addr) : nilcA (.pointer (some a)) = some (.pointer (some a)) := rfl
theorem putL_one (cs : List Value) (off : Nat) (v : Value) : putL cs off [v] = cs.set off v := rfl
theorem iadA_at {id off n fl sz : Nat} {k : IntKind} {z : Int} {j : Nat} (h : z = j) (hj : j < n) : iadA sz (.slice (some ⟨id, off, none⟩) n fl) (.int k z) = some (.pointer (some ⟨id, off + j * sz, none⟩)) := by
  subst h; exact iadA_in hj
theorem iad0 {id n fl : Nat} {z : Int} {j : Nat} (h : z = j) (hj : j < n) : iadA 1 (.slice (some ⟨id, 0, none⟩) n fl) (.int .i64 z) = some (.pointer (some ⟨id, j, none⟩)) := by
  have := iadA_at (id := id) (off := 0) (fl := fl) (sz := 1) (k := .i64) h hj
  simpa using this
/-- append: a whole block behind another one -/
theorem app_blk {M : Mem} {id1 id2 : Nat} {e : TypeId} {sz byt n1 n2 fl : Nat} {cs1 cs2 : List Value} (h1 : Own M id1 e cs1) (h2 : Own M id2 e cs2) (l1 : cs1.length = n1 * sz) (l2 : cs2.length = n2 * sz) (ho : onesB cs2 = true)
    (hb : n1 + n2 ≤ 1048576) (hy : byt ≤ 1000000) :
    appP M e sz byt (.slice (some ⟨id1, 0, none⟩) n1 sz) (.slice (some ⟨id2, 0, none⟩) n2 fl) = some (.slice (some ⟨M.length, 0, none⟩) (n1 + n2) sz, M.set id1 deadB ++ [⟨.own, e, cs1 ++ cs2⟩]) := by
  have e1 : slR M sz (.slice (some ⟨id2, 0, none⟩) n2 fl) = some cs2 := by
    simp only [slR]; exact h2.rdl l2.symm
  have hm : (n1 + n2) * byt ≤ 1048576 * 1000000 := Nat.mul_le_mul hb hy
  unfold appP
  rw [e1]
  simp only [ho, if_true, appA, lenOfA]
  rw [show M[id1]? = some ⟨.own, e, cs1⟩ from h1]
  simp only [l1, true_and]
  rw [if_pos (by omega)]
theorem app_genB {M : Mem} {id id2 n : Nat} {e : TypeId} {sz byt : Nat} {cs ys : List Value} (h : Own M id e cs) (h2 : id2 = M.length) (l1 : cs.length = n * sz) (l2 : ys.length = sz) (ho : onesB ys = true) (hb : n ≤ 1000000) (hy : byt ≤ 1000000) :
    appP (M ++ [⟨.own, e, ys⟩]) e sz byt (.slice (some ⟨id, 0, none⟩) n sz) (.slice (some ⟨id2, 0, none⟩) 1 sz) =
      some (.slice (some ⟨id2 + 1, 0, none⟩) (n + 1) sz, M.set id deadB ++ [⟨.own, e, ys⟩] ++ [⟨.own, e, cs ++ ys⟩]) := by
  subst h2
  rw [app_blk (h.ext _) (Own.end' rfl) l1 (by rw [l2, Nat.one_mul]) ho (by omega) hy, List.set_append_left _ _ h.lt]
  simp
theorem app_consB {M : Mem} {id id2 n fl : Nat} {e : TypeId} {sz byt : Nat} {cs ys : List Value} (h : Own M id e cs) (h2 : id2 = M.length) (l1 : cs.length = n * sz) (l2 : ys.length = sz) (ho : onesB cs = true) (hb : n ≤ 1000000) (hy : byt ≤ 1000000) :
    appP (M ++ [⟨.own, e, ys⟩]) e sz byt (.slice (some ⟨id2, 0, none⟩) 1 sz) (.slice (some ⟨id, 0, none⟩) n fl) =
      some (.slice (some ⟨id2 + 1, 0, none⟩) (1 + n) sz, M ++ [deadB] ++ [⟨.own, e, ys ++ cs⟩]) := by
  subst h2
  rw [app_blk (Own.end' rfl) (h.ext _) (by rw [l2, Nat.one_mul]) l1 ho (by omega) hy]
  simp
theorem bsl_sl {m : Mem} {e : TypeId} {A : Option Addr} {n c : Nat} : bslA m e 1 1 [.slice none 0 0] [(0, 1, .slice A n c)] = some (.slice (some ⟨m.length, 0, none⟩) 1 1, m ++ [⟨.own, e, [.slice A n c]⟩]) := rfl
/-- Rows of rows: all blocks from base on. -/
def Tab (base : Nat) (M : Mem) (id : Nat) (e er : TypeId) (vs : List Value) (F : Nat → Nat × List Value) : Prop :=
  base ≤ id ∧ Own M id e vs ∧ ∀ j, j < vs.length → ∃ rid f, vs[j]? = some (.slice (some ⟨rid, 0, none⟩) (F j).1 f) ∧ base ≤ rid ∧ Own M rid er (F j).2
theorem onesB_slices {vs : List Value} (h : ∀ j, j < vs.length → ∃ a n f, vs[j]? = some (.slice a n f)) : onesB vs = true := by
  unfold onesB
  rw [List.all_eq_true]
  intro x hx
  obtain ⟨k, hk, rfl⟩ := List.getElem_of_mem hx
  obtain ⟨a, n, f, h1⟩ := h k hk
  rw [List.getElem?_eq_getElem hk] at h1
  rw [Option.some.inj h1]
  rfl
section
variable {base : Nat} {M M' : Mem} {id : Nat} {e er : TypeId} {vs : List Value} {F : Nat → Nat × List Value}
theorem Tab.ones (h : Tab base M id e er vs F) : onesB vs = true := onesB_slices fun j hj => by obtain ⟨a, f, h1, _⟩ := h.2.2 j hj; exact ⟨_, _, f, h1⟩
theorem Tab.keep (h : Tab base M id e er vs F) (h1 : Own M' id e vs) (h2 : ∀ rid cs, Own M rid er cs → Own M' rid er cs) : Tab base M' id e er vs F :=
  ⟨h.1, h1, fun j hj => by obtain ⟨rid, f, g1, g2, g3⟩ := h.2.2 j hj; exact ⟨rid, f, g1, g2, h2 _ _ g3⟩⟩
theorem Tab.grow (h : Tab base M id e er vs F) (hx : Grow M M') : Tab base M' id e er vs F := h.keep (h.2.1.grow hx) fun _ _ ho => ho.grow hx
theorem Tab.ext (h : Tab base M id e er vs F) (R : Mem) : Tab base (M ++ R) id e er vs F := h.keep (h.2.1.ext R) fun _ _ ho => ho.ext R
theorem Tab.one {rid n f : Nat} {cs : List Value} (hb : base ≤ id) (h : Own M id e [.slice (some ⟨rid, 0, none⟩) n f]) (hr : base ≤ rid) (ho : Own M rid er cs) (hF : F 0 = (n, cs)) : Tab base M id e er [.slice (some ⟨rid, 0, none⟩) n f] F :=
  ⟨hb, h, fun j hj => by
    have : j = 0 := by simp at hj; exact hj
    subst this
    rw [hF]; exact ⟨rid, f, rfl, hr, ho⟩⟩
theorem Tab.cons {rid n f : Nat} {cs : List Value} {id2 : Nat} {F' : Nat → Nat × List Value} (h : Tab base M id e er vs F) (hr : base ≤ rid) (ho : Own M' rid er cs) (hk : ∀ rid cs, Own M rid er cs → Own M' rid er cs) (hb : base ≤ id2)
    (h2 : Own M' id2 e (.slice (some ⟨rid, 0, none⟩) n f :: vs)) (h0 : F' 0 = (n, cs)) (hs : ∀ j, j < vs.length → F' (j + 1) = F j) : Tab base M' id2 e er (.slice (some ⟨rid, 0, none⟩) n f :: vs) F' :=
  ⟨hb, h2, fun j hj => by
    cases j with
    | zero => rw [h0]; exact ⟨rid, f, rfl, hr, ho⟩
    | succ j =>
      have hj' : j < vs.length := by simpa using hj
      rw [hs j hj']
      obtain ⟨rid', f', g1, g2, g3⟩ := h.2.2 j hj'
      exact ⟨rid', f', by simpa using g1, g2, hk _ _ g3⟩⟩
end
/-- Rows of numbers. -/
def rowsF (R : Nat → List Int) (j : Nat) : Nat × List Value := ((R j).length, (R j).map (Value.int .i64))
/-- Rows of rows of numbers, to be read. -/
structure TabR (m : Mem) (v : Value) (N : Nat) (R : Nat → List Int) : Prop where
  ok : ∃ id fl, v = .slice (some ⟨id, 0, none⟩) N fl ∧ ∀ j, j < N → ∃ rid f, rdc m id j = some (.slice (some ⟨rid, 0, none⟩) (R j).length f) ∧ ∀ s, s < (R j).length → rdc m rid s = some (.int .i64 ((R j).getD s 0))
theorem TabR.keep {m m' : Mem} {v : Value} {N : Nat} {R : Nat → List Int} (h : TabR m v N R) (hk : ∀ (id k : Nat) (v : Value), rdc m id k = some v → rdc m' id k = some v) : TabR m' v N R := by
  obtain ⟨id, fl, h1, h2⟩ := h.ok
  refine ⟨id, fl, h1, fun j hj => ?_⟩
  obtain ⟨rid, f, g1, g2⟩ := h2 j hj
  exact ⟨rid, f, hk _ _ _ g1, fun s hs => hk _ _ _ (g2 s hs)⟩
theorem TabR.ro {m : Mem} {v : Value} {N : Nat} {R : Nat → List Int} (h : TabR m v N R) : TabR (roM m) v N R := h.keep fun _ _ _ h => by rw [rdc_roM]; exact h
theorem TabR.grow {m M : Mem} {v : Value} {N : Nat} {R : Nat → List Int} (h : TabR m v N R) (hx : Grow m M) : TabR M v N R := h.keep fun _ _ _ h => hx.rd h
theorem TabR.ext {m : Mem} {v : Value} {N : Nat} {R : Nat → List Int} (h : TabR m v N R) (X : Mem) : TabR (m ++ X) v N R := h.keep fun _ _ _ h => rdc_ext h
theorem OwnR.rd' {M : Mem} {id : Nat} {L : List Int} (h : OwnR M id L) {i : Nat} (hi : i < L.length) : rdc M id i = some (.int .i64 (L.getD i 0)) := by
  have := Own.rd (M := M) (id := id) (e := 3) (cs := L.map (Value.int .i64)) h i
  rw [this, List.getElem?_map, List.getElem?_eq_getElem hi, List.getD_eq_getElem?_getD, List.getElem?_eq_getElem hi]; rfl
theorem Tab.read {base : Nat} {M : Mem} {id N fl : Nat} {e : TypeId} {vs : List Value} {R : Nat → List Int} (h : Tab base M id e 3 vs (rowsF R)) (hN : N = vs.length) : TabR M (.slice (some ⟨id, 0, none⟩) N fl) N R := by
  subst hN
  refine ⟨id, fl, rfl, fun j hj => ?_⟩
  obtain ⟨rid, f, g1, g2, g3⟩ := h.2.2 j hj
  exact ⟨rid, f, by rw [h.2.1.rd]; exact g1, fun s hs => OwnR.rd' (L := R j) g3 hs⟩
/-- An answer: rows of rows of numbers. -/
def AnsT2 (m : Mem) (e : TypeId) (N : Nat) (R : Nat → List Int) (r : Value) (new : Mem) : Prop :=
  NoRo new ∧ ∃ id fl vs, r = .slice (some ⟨id, 0, none⟩) N fl ∧ vs.length = N ∧ Tab m.length (m ++ new) id e 3 vs (rowsF R)
theorem own_swap {m m' new : Mem} {id : Nat} {e : TypeId} {cs : List Value} (h : Own (m ++ new) id e cs) (hl : m.length = m'.length) (hid : m.length ≤ id) : Own (m' ++ new) id e cs := by
  unfold Own at h ⊢
  rw [List.getElem?_append_right hid] at h
  rw [List.getElem?_append_right (by omega), ← hl]; exact h
theorem ext_ansT2 {m M : Mem} {e : TypeId} {N id fl : Nat} {R : Nat → List Int} {vs : List Value} (h : Ext m M) (hN : vs.length = N) (hT : Tab m.length M id e 3 vs (rowsF R)) : newQ m (AnsT2 m e N R) (.slice (some ⟨id, 0, none⟩) N fl) M := by
  obtain ⟨n0, rfl, h0⟩ := h
  refine ⟨n0, rfl, h0, h0, id, fl, vs, rfl, hN, hT.1, own_swap hT.2.1 (roM_len m) (by rw [roM_len]; exact hT.1), fun j hj => ?_⟩
  obtain ⟨rid, f, g1, g2, g3⟩ := hT.2.2 j hj
  exact ⟨rid, f, g1, g2, own_swap g3 (roM_len m) (by rw [roM_len]; exact g2)⟩
end Go.Proofs.Ytiggehfopfpkbaa.Ab
