/- Objects in memory: what holds of a range of blocks, whatever lies elsewhere; rows, pairs and tables of one's own. -/
import Derived.Test.YtnkbjliidenldaaAbBasis
import Derived.Test.YtnkbjliidenldaaTabIn
namespace Go.Proofs.Ytnkbjliidenldaa.Ab
open Go Go.RowKit
set_option linter.unusedVariables false
set_option linter.unusedSimpArgs false

/-- It holds of the blocks lo..hi-1, whatever lies elsewhere. -/
def Lv (lo hi : Nat) (m : Mem) (P : Mem → Prop) : Prop := lo ≤ hi ∧ hi ≤ m.length ∧ ∀ m' : Mem, (∀ i, lo ≤ i → i < hi → m'[i]? = m[i]?) → P m'
/-- The same memory, but for the blocks lo..hi-1 and new ones. -/
def But (lo hi : Nat) (m m' : Mem) : Prop := m.length ≤ m'.length ∧ ∀ i, i < m.length → (i < lo ∨ hi ≤ i) → m'[i]? = m[i]?
section
variable {lo hi a b : Nat} {m m' : Mem} {P : Mem → Prop}
theorem Lv.now (h : Lv lo hi m P) : P m := h.2.2 m fun _ _ _ => rfl
theorem Lv.ext (h : Lv lo hi m P) (new : Mem) : Lv lo hi (m ++ new) P :=
  ⟨h.1, by have := h.2.1; rw [List.length_append]; omega, fun m' h' => h.2.2 m' fun i h1 h2 => by rw [h' i h1 h2, List.getElem?_append_left (by have := h.2.1; omega)]⟩
theorem Lv.but (h : Lv a b m P) (hb : But lo hi m m') (hd : b ≤ lo ∨ hi ≤ a) : Lv a b m' P :=
  ⟨h.1, Nat.le_trans h.2.1 hb.1, fun m2 h2 => h.2.2 m2 fun i h3 h4 => by rw [h2 i h3 h4]; exact hb.2 i (by have := h.2.1; omega) (by omega)⟩
theorem Lv.mono {Q : Mem → Prop} (h : Lv lo hi m P) (hq : ∀ M, P M → Q M) : Lv lo hi m Q := ⟨h.1, h.2.1, fun m' h' => hq _ (h.2.2 m' h')⟩
theorem Lv.wider (h : Lv lo hi m P) (h1 : a ≤ lo) (h2 : hi ≤ b) (h3 : b ≤ m.length) : Lv a b m P :=
  ⟨by have := h.1; omega, h3, fun m' h' => h.2.2 m' fun i h4 h5 => h' i (by omega) (by omega)⟩
theorem Lv.swap {x y new : Mem} (h : Lv lo hi (x ++ new) P) (hl : x.length = y.length) (h0 : x.length ≤ lo) : Lv lo hi (y ++ new) P :=
  ⟨h.1, by have := h.2.1; rw [List.length_append] at this ⊢; omega, fun m' h' => h.2.2 m' fun i h1 h2 => by
    rw [h' i h1 h2, List.getElem?_append_right (by omega), List.getElem?_append_right (by omega), hl]⟩
theorem Lv.ro (h : Lv lo hi m P) (hp : ∀ M, P M → P (roM M)) : P (roM m) := hp _ h.now
/-- What persists as memory grows, lives in all of it. -/
theorem Lv.all (hx : ∀ new, P (m ++ new)) : Lv 0 m.length m P :=
  ⟨Nat.zero_le _, Nat.le_refl _, fun m' h' => by
    have e : m' = m ++ m'.drop m.length := by
      apply List.ext_getElem?
      intro i
      by_cases hi : i < m.length
      · rw [List.getElem?_append_left hi]; exact h' i (by omega) hi
      · rw [List.getElem?_append_right (by omega), List.getElem?_drop]; congr 1; omega
    rw [e]; exact hx _⟩
theorem But.refl (lo hi : Nat) (m : Mem) : But lo hi m m := ⟨Nat.le_refl _, fun _ _ _ => rfl⟩
theorem But.ext (h : But lo hi m m') (new : Mem) : But lo hi m (m' ++ new) :=
  ⟨by have := h.1; rw [List.length_append]; omega, fun i h1 h2 => by rw [List.getElem?_append_left (by have := h.1; omega)]; exact h.2 i h1 h2⟩
theorem But.set (h : But lo hi m m') {id : Nat} (h1 : lo ≤ id) (h2 : id < hi) (x : Blk) : But lo hi m (m'.set id x) :=
  ⟨by rw [List.length_set]; exact h.1, fun i h3 h4 => by rw [List.getElem?_set_ne (by omega)]; exact h.2 i h3 h4⟩
theorem But.wider {lo' hi' : Nat} (h : But lo hi m m') (h1 : lo' ≤ lo) (h2 : hi ≤ hi') : But lo' hi' m m' := ⟨h.1, fun i h3 h4 => h.2 i h3 (by omega)⟩
theorem But.trans {m2 : Mem} (h : But lo hi m m') (h' : But lo hi m' m2) : But lo hi m m2 :=
  ⟨Nat.le_trans h.1 h'.1, fun i h1 h2 => by rw [h'.2 i (by have := h.1; omega) h2]; exact h.2 i h1 h2⟩
theorem But.base {new : Mem} (h : But lo hi (m ++ new) m') : But lo hi m m' :=
  ⟨by have := h.1; rw [List.length_append] at this; omega, fun i h1 h2 => by rw [h.2 i (by rw [List.length_append]; omega) h2, List.getElem?_append_left h1]⟩
end
/-- An answer of which a part lives in new blocks. -/
def AnsO (m : Mem) (O : Nat → Nat → Mem → Value → Prop) (f : Value → Value) (r : Value) (new : Mem) : Prop :=
  NoRo new ∧ ∃ v, r = f v ∧ Lv m.length (m.length + new.length) (m ++ new) fun M => O m.length (m.length + new.length) M v
/-- The end of a contract: what lies behind m, in a memory that grew from it. -/
theorem ext_ansO {m M : Mem} {O : Nat → Nat → Mem → Value → Prop} {f : Value → Value} {v : Value} (h : Ext m M) (hO : ∀ M', (∀ i, m.length ≤ i → i < M.length → M'[i]? = M[i]?) → O m.length M.length M' v) : newQ m (AnsO m O f) (f v) M := by
  obtain ⟨n0, rfl, h0⟩ := h
  have hl : (roM m ++ n0).length = m.length + n0.length := by rw [List.length_append, roM_len]
  refine ⟨n0, rfl, h0, h0, v, rfl, by omega, by rw [List.length_append]; omega, fun M' hM => ?_⟩
  rw [← hl]
  refine hO M' fun i h1 h2 => ?_
  rw [hl] at h2
  rw [hM i h1 h2, List.getElem?_append_right h1, List.getElem?_append_right (by rw [roM_len]; exact h1), roM_len]

/-- A block of one's own. -/
def OwnB (M : Mem) (id : Nat) (e : TypeId) (cs : List Value) : Prop := M[id]? = some ⟨.own, e, cs⟩
section
variable {M M' : Mem} {id id' : Nat} {e e' : TypeId} {cs cs' : List Value}
theorem OwnB.lt (h : OwnB M id e cs) : id < M.length := (List.getElem?_eq_some_iff.1 h).1
theorem OwnB.ext (h : OwnB M id e cs) (R : Mem) : OwnB (M ++ R) id e cs := by
  unfold OwnB; rw [List.getElem?_append_left h.lt]; exact h
theorem OwnB.set_ne (h : OwnB M id' e cs) (hne : id ≠ id') (b : Blk) : OwnB (M.set id b) id' e cs := by
  unfold OwnB; rw [List.getElem?_set_ne hne]; exact h
theorem OwnB.set_self (h : OwnB M id e cs) (e' : TypeId) (cs' : List Value) : OwnB (M.set id ⟨.own, e', cs'⟩) id e' cs' := by
  unfold OwnB; rw [List.getElem?_set_self h.lt]
theorem OwnB.ne (h : OwnB M id e cs) (h' : OwnB M id' e' cs') (he : e ≠ e') : id ≠ id' := fun hi => by
  subst hi
  unfold OwnB at h h'
  rw [h] at h'
  cases h'
  exact he rfl
theorem OwnB.rd (h : OwnB M id e cs) (k : Nat) : rdc M id k = cs[k]? := by
  unfold OwnB at h; simp [rdc, h]
theorem OwnB.here (h : id = M.length) : OwnB (M ++ [⟨.own, e, cs⟩]) id e cs := by unfold OwnB; rw [h]; simp
theorem OwnB.st (h : OwnB M id e cs) {off : Nat} {vs : List Value} (h2 : off + vs.length ≤ cs.length) (h1 : onesB vs = true) : stA M id off vs = some (M.set id ⟨.own, e, putL cs off vs⟩) := by
  unfold OwnB at h; simp [stA, h, h1, h2]
theorem OwnB.rdl (h : OwnB M id e cs) {k : Nat} (hk : k = cs.length) : rdl M id 0 k = some cs := by
  unfold OwnB at h
  subst hk
  simp [Ab.rdl, h]
theorem OwnB.at_ (h : OwnB M id e cs) (h2 : M'[id]? = M[id]?) : OwnB M' id e cs := by unfold OwnB; rw [h2]; exact h
theorem OwnR.at_ {l : List Int} (h : OwnR M id l) (h2 : M'[id]? = M[id]?) : OwnR M' id l := by unfold OwnR; rw [h2]; exact h
theorem rdc_at {k : Nat} (h2 : M'[id]? = M[id]?) : rdc M' id k = rdc M id k := by unfold rdc; rw [h2]
end
/-! Rows. -/
def IntsO (l : List Int) (lo hi : Nat) (M : Mem) (v : Value) : Prop :=
  l.length ≤ 1048576 ∧ ∃ id fl, v = .slice (some ⟨id, 0, none⟩) l.length fl ∧ lo ≤ id ∧ id < hi ∧ OwnR M id l
theorem IntsO.in {l : List Int} {lo hi : Nat} {M : Mem} {v : Value} (h : IntsO l lo hi M v) : IntsA M v l := by
  obtain ⟨hl, id, fl, rfl, _, _, ho⟩ := h
  exact ho.ints (by omega) fl
theorem IntsA.ownO {l : List Int} {lo hi id fl : Nat} {M : Mem} (h : OwnR M id l) (hl : l.length ≤ 1048576) (h1 : lo ≤ id) (h2 : id < hi) : IntsO l lo hi M (.slice (some ⟨id, 0, none⟩) l.length fl) := ⟨hl, id, fl, rfl, h1, h2, h⟩
theorem IntsO.lv {l : List Int} {lo hi : Nat} {m : Mem} {v : Value} (h : IntsO l lo hi m v) (h1 : hi ≤ m.length) : Lv lo hi m fun M => IntsO l lo hi M v := by
  obtain ⟨hl, id, fl, rfl, a, b, ho⟩ := h
  exact ⟨by omega, h1, fun m' h' => ⟨hl, id, fl, rfl, a, b, ho.at_ (h' id a b)⟩⟩
theorem toIntsO_rc (m : Mem) (v : Value) (l : List Int) (h : IntsA m v l) (hl : l.length ≤ 1048576) :
    RC Try.prog 35 [v] m (AnsO m (IntsO l) id) := by
  refine (toIntS_rc m v l h hl).mono ?_
  rintro r new ⟨rfl, rfl⟩
  refine ⟨noRo_own noRo_nil, _, rfl, IntsO.lv ⟨hl, m.length, 1, rfl, Nat.le_refl _, by simp, OwnR.here m l _ rfl⟩ (by simp)⟩
theorem markIntsO_ac (m : Mem) (lo hi : Nat) (v : Value) (l : List Int) (k0 : Int) (h : Lv lo hi m fun M => IntsO l lo hi M v) (h0 : 0 ≤ k0) (h1 : k0 ≤ 68719476736) :
    AC Try.prog 38 [v, .int .i64 k0] m fun r m' => r = .int .i64 (k0 + l.length) ∧ But lo hi m m' ∧ Lv lo hi m' fun M => IntsO (imarks k0 l.length) lo hi M v := by
  obtain ⟨hl, id, fl, rfl, a, b, ho⟩ := h.now
  refine (markIntS_any m id fl l k0 ho h0 (by omega) (by omega)).mono ?_
  rintro r m' ⟨rfl, rfl⟩
  refine ⟨rfl, (But.refl _ _ _).set a b _, IntsO.lv ⟨by rw [imarks_len]; exact hl, id, fl, by rw [imarks_len], a, b, OwnR.marked _ _ ho.lt⟩ (by rw [markR_len]; exact h.2.1)⟩
theorem heldIntsO_rc (m : Mem) (v : Value) (k0 : Int) (n : Nat) (h : IntsA m v (imarks k0 n)) (h0 : 0 ≤ k0) (h1 : k0 ≤ 68719476736) (hn : n ≤ 1048576) :
    RC Try.prog 39 [v, .int .i64 k0] m fun r new => r = .int .i64 (k0 + n) ∧ NoRo new :=
  (heldIntS_rc m v k0 n h h0 (by omega) (by omega)).mono fun r new h => ⟨h.1, by rw [h.2]; exact noRo_nil⟩
theorem eqIntsO_rc (m : Mem) (v u : Value) (l : List Int) (h : IntsA m v l) (h' : IntsA m u l) : RC Try.prog 37 [v, u] m fun r new => r = .bool true ∧ NoRo new :=
  (eqIntS_rc m v u l h h').mono fun r new h => ⟨h.1, by rw [h.2]; exact noRo_nil⟩
theorem szIntsO_rc (m : Mem) (v : Value) (l : List Int) (left : Int) (h : IntsA m v l) (h0 : 0 ≤ left) (h1 : left ≤ 1048576) :
    RC Try.prog 66 [v, .int .i64 left] m fun r new => NoRo new ∧ ((r = .int .i64 (-1)) ∨ ∃ z : Int, 0 ≤ z ∧ z ≤ left ∧ r = .int .i64 z ∧ l.length ≤ 1048576) := by
  refine (szIntS_rc m v l left h h0 h1).mono ?_
  rintro r new ⟨rfl, rfl⟩
  refine ⟨noRo_nil, ?_⟩
  by_cases hn : left - (l.length : Int) < 0
  · rw [if_pos hn]; exact .inl rfl
  · rw [if_neg hn]; exact .inr ⟨_, by omega, by omega, rfl, by omega⟩
/-- Numbers that were answered, as an object. -/
theorem AnsL.obj {m : Mem} {l : List Int} {ok : Bool} {r : Value} {new : Mem} (h : AnsL m l ok r new) : AnsO m (IntsO l) (fun v => .tuple #[v, .bool ok]) r new := by
  obtain ⟨hn, hl, i, fl, rfl, hi⟩ := h
  have hlt := (List.getElem?_eq_some_iff.1 hi).1
  exact ⟨hn, _, rfl, IntsO.lv ⟨hl, _, fl, rfl, by omega, by omega, OwnR.new hi rfl⟩ (by simp)⟩

/-! Pairs. -/
/-- Pairs, to be read. -/
def PairsA (m : Mem) (v : Value) (L : List (Int × Int)) : Prop :=
  L.length ≤ 9223372036854775807 ∧ ∃ id fl, v = .slice (some ⟨id, 0, none⟩) L.length fl ∧ ∀ k, k < L.length → rdc m id (k * 2) = some (.int .i64 (L.getD k (0, 0)).1) ∧ rdc m id (k * 2 + 1) = some (.int .i64 (L.getD k (0, 0)).2)
theorem PairsA.ext {m : Mem} {v : Value} {L : List (Int × Int)} (h : PairsA m v L) (new : Mem) : PairsA (m ++ new) v L := by
  obtain ⟨hb, id, fl, rfl, hc⟩ := h
  exact ⟨hb, id, fl, rfl, fun k hk => ⟨rdc_ext (hc k hk).1, rdc_ext (hc k hk).2⟩⟩
theorem PairsA.ro {m : Mem} {v : Value} {L : List (Int × Int)} (h : PairsA m v L) : PairsA (roM m) v L := by
  obtain ⟨hb, id, fl, rfl, hc⟩ := h
  exact ⟨hb, id, fl, rfl, fun k hk => by rw [rdc_roM, rdc_roM]; exact hc k hk⟩
def PairsO (e : TypeId) (L : List (Int × Int)) (lo hi : Nat) (M : Mem) (v : Value) : Prop :=
  L.length ≤ 1048576 ∧ ∃ id fl, v = .slice (some ⟨id, 0, none⟩) L.length fl ∧ lo ≤ id ∧ id < hi ∧ OwnB M id e (pairsC L)
theorem PairsO.in {e : TypeId} {L : List (Int × Int)} {lo hi : Nat} {M : Mem} {v : Value} (h : PairsO e L lo hi M v) : PairsA M v L := by
  obtain ⟨hl, id, fl, rfl, _, _, ho⟩ := h
  exact ⟨by omega, id, fl, rfl, fun k hk => by rw [ho.rd, ho.rd]; exact pairsC_at L k hk⟩
theorem PairsO.lv {e : TypeId} {L : List (Int × Int)} {lo hi : Nat} {m : Mem} {v : Value} (h : PairsO e L lo hi m v) (h1 : hi ≤ m.length) : Lv lo hi m fun M => PairsO e L lo hi M v := by
  obtain ⟨hl, id, fl, rfl, a, b, ho⟩ := h
  exact ⟨by omega, h1, fun m' h' => ⟨hl, id, fl, rfl, a, b, ho.at_ (h' id a b)⟩⟩
/-- The marks of pairs. -/
def pmarks (k0 : Int) (n : Nat) : List (Int × Int) := (List.range n).map fun (j : Nat) => (k0 + 2 * (j : Int), k0 + 2 * (j : Int) + 1)
theorem pmarks_len (k0 : Int) (n : Nat) : (pmarks k0 n).length = n := by simp [pmarks]
theorem pmarks_at {k0 : Int} {n j : Nat} (h : j < n) : (pmarks k0 n).getD j (0, 0) = (k0 + 2 * (j : Int), k0 + 2 * (j : Int) + 1) := by simp [pmarks, List.getD_eq_getElem?_getD, h]

/-! Tables: rows of rows. -/
/-- Rows of rows, to be read. -/
structure TabA (m : Mem) (v : Value) (T : List (List Int)) : Prop where
  len : lenA v = some (.int .i64 T.length)
  bd : T.length ≤ 9223372036854775807
  at_ : ∀ k, k < T.length → iadA 1 v (.int .i64 (k : Int)) = some (pAt v k)
  ld : ∀ k, k < T.length → ∃ u, ldA m none (pAt v k) = some u ∧ IntsA m u (T.getD k [])
  fm : ∃ id fl, v = .slice (some ⟨id, 0, none⟩) T.length fl
theorem TabA.ext {m : Mem} {v : Value} {T : List (List Int)} (h : TabA m v T) (new : Mem) : TabA (m ++ new) v T :=
  ⟨h.len, h.bd, h.at_, fun k hk => by obtain ⟨u, h1, h2⟩ := h.ld k hk; exact ⟨u, ldA_ext h1, h2.ext new⟩, h.fm⟩
theorem TabA.ro {m : Mem} {v : Value} {T : List (List Int)} (h : TabA m v T) : TabA (roM m) v T :=
  ⟨h.len, h.bd, h.at_, fun k hk => by obtain ⟨u, h1, h2⟩ := h.ld k hk; exact ⟨u, by rw [ldA_roM]; exact h1, h2.ro⟩, h.fm⟩
theorem TabA.blk {m : Mem} {id fl : Nat} {T : List (List Int)} (hb : T.length ≤ 9223372036854775807) (h : ∀ k, k < T.length → ∃ u, rdc m id k = some u ∧ IntsA m u (T.getD k [])) : TabA m (.slice (some ⟨id, 0, none⟩) T.length fl) T := by
  refine ⟨rfl, hb, fun k hk => ?_, fun k hk => ?_, _, _, rfl⟩
  · simp only [iadA, pAt, Int.toNat_natCast, Nat.mul_one]
    rw [if_pos (by omega)]
  · obtain ⟨u, h1, h2⟩ := h k hk
    exact ⟨u, by simp only [pAt, ldA, Nat.zero_add]; exact h1, h2⟩
/-- How many numbers the first k rows have. -/
def tsz (T : List (List Int)) : Nat → Int
  | 0 => 0
  | k + 1 => tsz T k + ((T.getD k []).length : Int)
theorem tsz_le (T : List (List Int)) {j k : Nat} (h : j ≤ k) : tsz T j ≤ tsz T k := by
  induction k with
  | zero => rw [show j = 0 by omega]; exact Int.le_refl _
  | succ k ih =>
    by_cases e : j = k + 1
    · rw [e]; exact Int.le_refl _
    · have := ih (by omega)
      simp only [tsz]; omega
theorem tsz_row (T : List (List Int)) {j k : Nat} (h : j < k) : ((T.getD j []).length : Int) ≤ tsz T k := by
  have h1 := tsz_le T (j := j + 1) (k := k) (by omega)
  have h2 := tsz_le T (j := 0) (k := j) (by omega)
  simp only [tsz] at h1 h2; omega
theorem tsz_nonneg (T : List (List Int)) (k : Nat) : 0 ≤ tsz T k := tsz_le T (Nat.zero_le k)
/-- The marks of a table, row by row. -/
def tmarks (k0 : Int) (T : List (List Int)) : List (List Int) := (List.range T.length).map fun j => imarks (k0 + tsz T j) (T.getD j []).length
theorem tmarks_len (k0 : Int) (T : List (List Int)) : (tmarks k0 T).length = T.length := by simp [tmarks]
theorem tmarks_at {k0 : Int} {T : List (List Int)} {j : Nat} (h : j < T.length) : (tmarks k0 T).getD j [] = imarks (k0 + tsz T j) (T.getD j []).length := by
  simp [tmarks, List.getD_eq_getElem?_getD, h]
/-- The cells of a table: row j lies in the block R j. -/
def rowsC (T : List (List Int)) (R F : Nat → Nat) : List Value := (List.range T.length).map fun j => .slice (some ⟨R j, 0, none⟩) (T.getD j []).length (F j)
theorem rowsC_len (T : List (List Int)) (R F : Nat → Nat) : (rowsC T R F).length = T.length := by simp [rowsC]
theorem rowsC_at {T : List (List Int)} {R F : Nat → Nat} {j : Nat} (h : j < T.length) : (rowsC T R F)[j]? = some (.slice (some ⟨R j, 0, none⟩) (T.getD j []).length (F j)) := by
  simp [rowsC, h]
/-- A table of one's own. -/
def TabO (T : List (List Int)) (lo hi : Nat) (M : Mem) (v : Value) : Prop :=
  T.length ≤ 1048576 ∧ tsz T T.length ≤ 1048576 ∧ ∃ id fl R F, v = .slice (some ⟨id, 0, none⟩) T.length fl ∧ lo ≤ id ∧ id < hi ∧ OwnB M id 22 (rowsC T R F) ∧
    (∀ j, j < T.length → lo ≤ R j ∧ R j < hi ∧ OwnR M (R j) (T.getD j [])) ∧ ∀ i j, i < T.length → j < T.length → R i = R j → i = j
theorem TabO.in {T : List (List Int)} {lo hi : Nat} {M : Mem} {v : Value} (h : TabO T lo hi M v) : TabA M v T := by
  obtain ⟨hl, hs, id, fl, R, F, rfl, _, _, ho, hr, _⟩ := h
  exact TabA.blk (by omega) fun k hk => ⟨_, by rw [ho.rd]; exact rowsC_at hk, (hr k hk).2.2.ints (by have := tsz_row T hk; omega) _⟩
theorem TabO.lv {T : List (List Int)} {lo hi : Nat} {m : Mem} {v : Value} (h : TabO T lo hi m v) (h1 : hi ≤ m.length) : Lv lo hi m fun M => TabO T lo hi M v := by
  obtain ⟨hl, hs, id, fl, R, F, rfl, a, b, ho, hr, hd⟩ := h
  exact ⟨by omega, h1, fun m' h' => ⟨hl, hs, id, fl, R, F, rfl, a, b, ho.at_ (h' id a b), fun j hj => by
    obtain ⟨c, d, e⟩ := hr j hj
    exact ⟨c, d, e.at_ (h' _ c d)⟩, hd⟩⟩
end Go.Proofs.Ytnkbjliidenldaa.Ab
