/- Tables under construction; append of whole elements. -/
import Derived.Test.YtnkbjliidenldaaAbMarks
namespace Go.Proofs.Ytnkbjliidenldaa.Ab
open Go Go.RowKit
set_option linter.unusedVariables false
set_option linter.unusedSimpArgs false

theorem appB {M : Mem} {id1 id2 : Nat} {e : TypeId} {sz byt n1 n2 fl : Nat} {cs1 cs2 : List Value} (h1 : OwnB M id1 e cs1) (h2 : OwnB M id2 e cs2) (l1 : cs1.length = n1 * sz) (l2 : cs2.length = n2 * sz) (ho : onesB cs2 = true)
    (hb : n1 + n2 ≤ 1048576) (hy : byt ≤ 1000000) :
    appP M e sz byt (.slice (some ⟨id1, 0, none⟩) n1 sz) (.slice (some ⟨id2, 0, none⟩) n2 fl) = some (.slice (some ⟨M.length, 0, none⟩) (n1 + n2) sz, M.set id1 deadB ++ [⟨.own, e, cs1 ++ cs2⟩]) := by
  have e1 : slR M sz (.slice (some ⟨id2, 0, none⟩) n2 fl) = some cs2 := by
    simp only [slR]; exact h2.rdl l2.symm
  have hm : (n1 + n2) * byt ≤ 1048576 * 1000000 := Nat.mul_le_mul hb hy
  unfold appP
  rw [e1]
  simp only [ho, if_true, appA, lenOfA]
  rw [show M[id1]? = some ⟨.own, e, cs1⟩ from h1]
  simp only [l1, true_and]
  rw [if_pos (by omega)]
/-- One element behind. -/
theorem app_back {M : Mem} {id id2 n : Nat} {e : TypeId} {sz byt : Nat} {cs ys : List Value} (h : OwnB M id e cs) (h2 : id2 = M.length) (l1 : cs.length = n * sz) (l2 : ys.length = sz) (ho : onesB ys = true) (hb : n ≤ 1000000) (hy : byt ≤ 1000000) :
    appP (M ++ [⟨.own, e, ys⟩]) e sz byt (.slice (some ⟨id, 0, none⟩) n sz) (.slice (some ⟨id2, 0, none⟩) 1 sz) =
      some (.slice (some ⟨id2 + 1, 0, none⟩) (n + 1) sz, M.set id deadB ++ [⟨.own, e, ys⟩] ++ [⟨.own, e, cs ++ ys⟩]) := by
  subst h2
  rw [appB (h.ext _) (OwnB.here rfl) l1 (by rw [l2, Nat.one_mul]) ho (by omega) hy, List.set_append_left _ _ h.lt]
  simp
/-- One element ahead. -/
theorem app_front {M : Mem} {id id2 n fl : Nat} {e : TypeId} {sz byt : Nat} {cs ys : List Value} (h : OwnB M id e cs) (h2 : id2 = M.length) (l1 : cs.length = n * sz) (l2 : ys.length = sz) (ho : onesB cs = true) (hb : n ≤ 1000000) (hy : byt ≤ 1000000) :
    appP (M ++ [⟨.own, e, ys⟩]) e sz byt (.slice (some ⟨id2, 0, none⟩) 1 sz) (.slice (some ⟨id, 0, none⟩) n fl) =
      some (.slice (some ⟨id2 + 1, 0, none⟩) (1 + n) sz, M ++ [deadB] ++ [⟨.own, e, ys ++ cs⟩]) := by
  subst h2
  rw [appB (OwnB.here rfl) (h.ext _) (by rw [l2, Nat.one_mul]) l1 ho (by omega) hy]
  simp
/-- One element alone. -/
theorem app_nil {M : Mem} {id2 : Nat} {e : TypeId} {sz byt : Nat} {ys : List Value} (h2 : id2 = M.length) (l2 : ys.length = sz) (ho : onesB ys = true) (hy : byt ≤ 1000000) :
    appP (M ++ [⟨.own, e, ys⟩]) e sz byt (.slice none 0 0) (.slice (some ⟨id2, 0, none⟩) 1 sz) =
      some (.slice (some ⟨id2 + 1, 0, none⟩) 1 sz, M ++ [⟨.own, e, ys⟩] ++ [⟨.own, e, ys⟩]) := by
  subst h2
  have e1 : slR (M ++ [⟨.own, e, ys⟩]) sz (.slice (some ⟨M.length, 0, none⟩) 1 sz) = some ys := by
    simp only [slR]; exact (OwnB.here rfl).rdl (by rw [l2, Nat.one_mul])
  unfold appP
  rw [e1]
  simp only [ho, if_true, appA]
  rw [if_pos (by simp only [lenOfA]; omega)]
  simp [lenOfA]
theorem bsl_sl' {m : Mem} {e : TypeId} {A : Option Addr} {n c : Nat} : bslA m e 1 1 [.slice none 0 0] [(0, 1, .slice A n c)] = some (.slice (some ⟨m.length, 0, none⟩) 1 1, m ++ [⟨.own, e, [.slice A n c]⟩]) := rfl
theorem bsl_pair {m : Mem} {e : TypeId} {a b : Int} : bslA m e 2 1 [.int .i64 0, .int .i64 0] [(0, 2, .agg #[.int .i64 a, .int .i64 b])] = some (.slice (some ⟨m.length, 0, none⟩) 1 2, m ++ [⟨.own, e, [.int .i64 a, .int .i64 b]⟩]) := rfl
theorem bsl_no {m : Mem} {e : TypeId} {sz : Nat} : bslA m e sz 0 [] [] = some (.slice (some ⟨m.length, 0, none⟩) 0 sz, m ++ [⟨.own, e, []⟩]) := rfl
theorem onesB_rows (T : List (List Int)) (R F : Nat → Nat) : onesB (rowsC T R F) = true := by
  unfold onesB
  rw [List.all_eq_true]
  intro x hx
  simp only [rowsC, List.mem_map] at hx
  obtain ⟨j, _, rfl⟩ := hx
  rfl
theorem onesB_pairs (L : List (Int × Int)) : onesB (pairsC L) = true := by
  unfold onesB
  rw [List.all_eq_true]
  intro x hx
  obtain ⟨k, hk, rfl⟩ := List.getElem_of_mem hx
  rw [pairsC_len] at hk
  have p := pairsC_at L (k / 2) (by omega)
  have ei : k = k / 2 * 2 ∨ k = k / 2 * 2 + 1 := by omega
  rcases ei with ei | ei
  · have q := p.1
    rw [← ei, List.getElem?_eq_getElem (by rw [pairsC_len]; omega)] at q
    rw [Option.some.inj q]; rfl
  · have q := p.2
    rw [← ei, List.getElem?_eq_getElem (by rw [pairsC_len]; omega)] at q
    rw [Option.some.inj q]; rfl
theorem app_num {M : Mem} {l : List Int} {x : Int} {id id2 n : Nat} (h : OwnR M id l) (hb : l.length ≤ 1048576) (h2 : id2 = M.length) (hn : n = l.length) :
    appP (M ++ [⟨.own, 3, [.int .i64 x]⟩]) 3 1 8 (.slice (some ⟨id, 0, none⟩) n 1) (.slice (some ⟨id2, 0, none⟩) 1 1) =
      some (.slice (some ⟨id2 + 1, 0, none⟩) (n + 1) 1, M.set id deadB ++ [⟨.own, 3, [.int .i64 x]⟩] ++ [⟨.own, 3, (l ++ [x]).map (Value.int .i64)⟩]) := by
  subst h2 hn
  exact app_gen h hb
/-- A table whose blocks lie in lo..hi-1. -/
def TabX (T : List (List Int)) (lo hi : Nat) (M : Mem) (id : Nat) (R F : Nat → Nat) : Prop :=
  lo ≤ id ∧ id < hi ∧ OwnB M id 22 (rowsC T R F) ∧ (∀ j, j < T.length → lo ≤ R j ∧ R j < hi ∧ OwnR M (R j) (T.getD j [])) ∧ ∀ i j, i < T.length → j < T.length → R i = R j → i = j
theorem TabX.at_ {T : List (List Int)} {lo hi : Nat} {M M' : Mem} {id : Nat} {R F : Nat → Nat} (h : TabX T lo hi M id R F) (hs : ∀ i, lo ≤ i → i < hi → M'[i]? = M[i]?) : TabX T lo hi M' id R F :=
  ⟨h.1, h.2.1, h.2.2.1.at_ (hs _ h.1 h.2.1), fun j hj => by obtain ⟨a, b, c⟩ := h.2.2.2.1 j hj; exact ⟨a, b, c.at_ (hs _ a b)⟩, h.2.2.2.2⟩
theorem TabX.wider {T : List (List Int)} {lo hi hi' : Nat} {M : Mem} {id : Nat} {R F : Nat → Nat} (h : TabX T lo hi M id R F) (hh : hi ≤ hi') : TabX T lo hi' M id R F :=
  ⟨h.1, by have := h.2.1; omega, h.2.2.1, fun j hj => by obtain ⟨a, b, c⟩ := h.2.2.2.1 j hj; exact ⟨a, by omega, c⟩, h.2.2.2.2⟩
theorem TabX.ext {T : List (List Int)} {lo hi : Nat} {M : Mem} {id : Nat} {R F : Nat → Nat} (h : TabX T lo hi M id R F) (hh : hi ≤ M.length) (new : Mem) : TabX T lo hi (M ++ new) id R F :=
  h.at_ fun i _ h2 => List.getElem?_append_left (by omega)
theorem same_gen {M : Mem} {id i : Nat} {b : Blk} {x y : Mem} (h : i < id) (hl : id < M.length) : (M.set id b ++ x ++ y)[i]? = M[i]? := by
  rw [List.append_assoc, List.getElem?_append_left (by rw [List.length_set]; omega), List.getElem?_set_ne (by omega)]
theorem TabX.row {T : List (List Int)} {lo hi : Nat} {M : Mem} {id : Nat} {R F : Nat → Nat} (h : TabX T lo hi M id R F) {j : Nat} (hj : j < T.length) (hb : (T.getD j []).length ≤ 1048576) :
    rdc M id j = some (.slice (some ⟨R j, 0, none⟩) (T.getD j []).length (F j)) ∧ IntsA M (.slice (some ⟨R j, 0, none⟩) (T.getD j []).length (F j)) (T.getD j []) :=
  ⟨by rw [h.2.2.1.rd]; exact rowsC_at hj, (h.2.2.2.1 j hj).2.2.ints (by omega) _⟩
theorem rowsC_cons {T : List (List Int)} {r : List Int} {R F : Nat → Nat} {rid f : Nat} :
    rowsC (r :: T) (fun j => if j = 0 then rid else R (j - 1)) (fun j => if j = 0 then f else F (j - 1)) = .slice (some ⟨rid, 0, none⟩) r.length f :: rowsC T R F := by
  unfold rowsC
  rw [List.length_cons, List.range_succ_eq_map, List.map_cons, List.map_map]
  congr 1
theorem TabX.cons {T : List (List Int)} {r : List Int} {lo hi hi' : Nat} {M M' : Mem} {id id' rid f : Nat} {R F : Nat → Nat} (h : TabX T lo hi M id R F) (hs : ∀ i, lo ≤ i → i < hi → M'[i]? = M[i]?)
    (h1 : lo ≤ id') (h2 : id' < hi') (h3 : OwnB M' id' 22 (.slice (some ⟨rid, 0, none⟩) r.length f :: rowsC T R F)) (h4 : hi ≤ rid) (h5 : rid < hi') (h6 : OwnR M' rid r) (h7 : hi ≤ hi') :
    TabX (r :: T) lo hi' M' id' (fun j => if j = 0 then rid else R (j - 1)) (fun j => if j = 0 then f else F (j - 1)) := by
  have hx := h.at_ hs
  refine ⟨h1, h2, by rw [rowsC_cons]; exact h3, fun j hj => ?_, fun i j hi hj he => ?_⟩
  · cases j with
    | zero => exact ⟨by have := h.1; have := h.2.1; simp; omega, by simpa using h5, by simpa using h6⟩
    | succ j =>
      obtain ⟨a, b, c⟩ := hx.2.2.2.1 j (by simpa using hj)
      exact ⟨by simpa using a, by simp; omega, by simpa using c⟩
  · cases i with
    | zero =>
      cases j with
      | zero => rfl
      | succ j =>
        have := (h.2.2.2.1 j (by simpa using hj)).2.1
        simp at he; omega
    | succ i =>
      cases j with
      | zero =>
        have := (h.2.2.2.1 i (by simpa using hi)).2.1
        simp at he; omega
      | succ j =>
        have := h.2.2.2.2 i j (by simpa using hi) (by simpa using hj) (by simpa using he)
        omega
theorem TabX.obj {T : List (List Int)} {lo hi : Nat} {M : Mem} {id fl : Nat} {R F : Nat → Nat} (h : TabX T lo hi M id R F) (h1 : T.length ≤ 1048576) (h2 : tsz T T.length ≤ 1048576) : TabO T lo hi M (.slice (some ⟨id, 0, none⟩) T.length fl) :=
  ⟨h1, h2, id, fl, R, F, rfl, h.1, h.2.1, h.2.2.1, h.2.2.2.1, h.2.2.2.2⟩
/-- An object in a range lies in a wider one. -/
def Wide (O : Nat → Nat → Mem → Value → Prop) : Prop := ∀ lo hi lo' hi' M v, lo' ≤ lo → hi ≤ hi' → O lo hi M v → O lo' hi' M v
theorem IntsO.wide (l : List Int) : Wide (IntsO l) := fun lo hi lo' hi' M v h1 h2 h => by
  obtain ⟨a, id, fl, b, c, d, e⟩ := h
  exact ⟨a, id, fl, b, by omega, by omega, e⟩
theorem PairsO.wide (e : TypeId) (L : List (Int × Int)) : Wide (PairsO e L) := fun lo hi lo' hi' M v h1 h2 h => by
  obtain ⟨a, id, fl, b, c, d, e⟩ := h
  exact ⟨a, id, fl, b, by omega, by omega, e⟩
theorem TabO.wide (T : List (List Int)) : Wide (TabO T) := fun lo hi lo' hi' M v h1 h2 h => by
  obtain ⟨a, b, id, fl, R, F, c, d, e, f, g, k⟩ := h
  exact ⟨a, b, id, fl, R, F, c, by omega, by omega, f, fun j hj => by obtain ⟨x, y, z⟩ := g j hj; exact ⟨by omega, by omega, z⟩, k⟩
/-- An answer is passed on. -/
theorem Ext.pass {m A new : Mem} {O : Nat → Nat → Mem → Value → Prop} {f : Value → Value} {w : Value} (hX : Ext m A) (hn : NoRo new) (hO : Wide O) (h : Lv A.length (A.length + new.length) (A ++ new) fun M => O A.length (A.length + new.length) M w) : newQ m (AnsO m O f) (f w) (A ++ new) :=
  ext_ansO (hX.app hn) fun M' hM => hO _ _ _ _ _ _ hX.len (by rw [List.length_append]; exact Nat.le_refl _) (h.2.2 M' fun i h1 h2 => hM i (by have := hX.len; omega) (by rw [List.length_append]; exact h2))
/-- Answers without rows. -/
theorem ext_noTab {m A : Mem} {f : Value → Value} {id : Nat} (hX : Ext m A) (hid : id = A.length) : newQ m (AnsO m (TabO []) f) (f (.slice (some ⟨id, 0, none⟩) 0 1)) (A ++ [⟨.own, 22, []⟩]) := by
  subst hid
  exact ext_ansO (hX.one _ _) fun M' hM => ⟨by simp, by simp [tsz], _, 1, fun _ => 0, fun _ => 0, rfl, hX.len, by simp, (OwnB.here rfl).at_ (hM _ hX.len (by simp)), fun j hj => absurd hj (by simp), fun i j hi => absurd hi (by simp)⟩
theorem ext_noPairs {m A : Mem} {f : Value → Value} {e : TypeId} {id : Nat} (hX : Ext m A) (hid : id = A.length) : newQ m (AnsO m (PairsO e []) f) (f (.slice (some ⟨id, 0, none⟩) 0 2)) (A ++ [⟨.own, e, []⟩]) := by
  subst hid
  exact ext_ansO (hX.one _ _) fun M' hM => ⟨by simp, _, 2, rfl, hX.len, by simp, (OwnB.here rfl).at_ (hM _ hX.len (by simp))⟩
theorem ext_noInts {m A : Mem} {f : Value → Value} {id : Nat} (hX : Ext m A) (hid : id = A.length) : newQ m (AnsO m (IntsO []) f) (f (.slice (some ⟨id, 0, none⟩) 0 1)) (A ++ [⟨.own, 3, []⟩]) := by
  subst hid
  exact ext_ansO (hX.one _ _) fun M' hM => ⟨by simp, _, 1, rfl, hX.len, by simp, OwnR.at_ (OwnB.here rfl) (hM _ hX.len (by simp))⟩
theorem rdc_blk2 {m : Mem} {id k : Nat} {v : Value} (h : rdc m id k = some v) : id < m.length := by
  unfold rdc at h
  cases hm : m[id]? with
  | none => rw [hm] at h; cases h
  | some b => exact (List.getElem?_eq_some_iff.1 hm).1
theorem take_next {l : List Int} {i : Nat} (h : i < l.length) : l.take (i + 1) = l.take i ++ [l.getD i 0] := by
  rw [List.take_add_one, List.getD_eq_getElem?_getD, List.getElem?_eq_getElem h]; rfl
end Go.Proofs.Ytnkbjliidenldaa.Ab
