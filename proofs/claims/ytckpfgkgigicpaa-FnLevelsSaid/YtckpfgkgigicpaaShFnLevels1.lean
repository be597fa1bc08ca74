/- What the law needs of the texts that it rests on. -/
import Derived.Test.YtckpfgkgigicpaaShFnLevels0
section
namespace Go.Proofs.Ytckpfgkgigicpaa.Ab
open Go Go.RowKit
set_option linter.unusedVariables false
set_option linter.unusedSimpArgs false
theorem app_genK {M : Mem} {l : List Int} {x : Int} {id : Nat} (h : OwnR M id l) (hb : l.length ≤ 1048576) :
    appP (M ++ [⟨.own, 3, [.int .i64 x]⟩]) 3 1 8 (.slice (some ⟨id, 0, none⟩) l.length 1) (.slice (some ⟨M.length, 0, none⟩) 1 1) =
      some (.slice (some ⟨M.length + 1, 0, none⟩) (l.length + 1) 1, M.set id deadB ++ [⟨.own, 3, [.int .i64 x]⟩] ++ [⟨.own, 3, (l ++ [x]).map (Value.int .i64)⟩]) := by
  have hl := h.lt
  have e1 : slR (M ++ [⟨.own, 3, [.int .i64 x]⟩]) 1 (.slice (some ⟨M.length, 0, none⟩) 1 1) = some [.int .i64 x] := by
    simp only [slR, rdl, Nat.mul_one]
    simp
  unfold appP
  rw [e1]
  simp only [onesB_int, onesB_nil, if_true, appA, lenOfA]
  rw [List.getElem?_append_left hl, show M[id]? = some (rowB l) from h]
  simp only [List.length_map, Nat.mul_one, true_and]
  rw [if_pos (by omega), List.set_append_left _ _ hl]
  simp
def Gr (M : Mem) (v : Value) (l : List Int) (r : Nat) : Prop := (v = .slice none 0 0 ∧ l = []) ∨ (v = .slice (some ⟨r, 0, none⟩) l.length 1 ∧ l ≠ [] ∧ OwnR M r l)
theorem Gr.ints {M : Mem} {v : Value} {l : List Int} {r : Nat} (h : Gr M v l r) (hl : l.length ≤ 1000) : IntsA M v l := by
  rcases h with ⟨rfl, rfl⟩ | ⟨rfl, _, ho⟩
  · exact IntsA.nil M
  · exact ho.ints (by omega) 1
theorem Gr.app {M : Mem} {v : Value} {l : List Int} {r : Nat} (h : Gr M v l r) (hl : l.length ≤ 1000) (x : Int) : ∃ M1, appP (M ++ [⟨.own, 3, [.int .i64 x]⟩]) 3 1 8 v (.slice (some ⟨M.length, 0, none⟩) 1 1) = some (.slice (some ⟨M.length + 1, 0, none⟩) (l.length + 1) 1, M1) ∧
    M1.length = M.length + 2 ∧ OwnR M1 (M.length + 1) (l ++ [x]) ∧ (∀ i, i < M.length → (l ≠ [] → i ≠ r) → M1[i]? = M[i]?) ∧ ∀ (i : Nat) (b : Blk), (i = r ∧ l ≠ [] ∨ M.length ≤ i) → M1[i]? = some b → b.kd ≠ .ro := by
  rcases h with ⟨rfl, rfl⟩ | ⟨rfl, hne, ho⟩
  · refine ⟨M ++ [⟨.own, 3, [.int .i64 x]⟩] ++ [⟨.own, 3, [.int .i64 x]⟩], ?_, by simp, ?_, ?_, ?_⟩
    · have e1 : slR (M ++ [⟨.own, 3, [.int .i64 x]⟩]) 1 (.slice (some ⟨M.length, 0, none⟩) 1 1) = some [.int .i64 x] := by
        simp only [slR, rdl, Nat.mul_one]
        simp
      unfold appP
      rw [e1]
      simp [onesB_int, onesB_nil, appA, lenOfA]
    · unfold OwnR
      rw [List.getElem?_append_right (by simp)]
      simp
    · intro i hi _
      rw [List.getElem?_append_left (by simp; omega), List.getElem?_append_left hi]
    · intro i b hi hb
      have hi : M.length ≤ i := by
        rcases hi with ⟨_, h⟩ | h
        · exact absurd rfl h
        · exact h
      rw [List.append_assoc, List.getElem?_append_right hi] at hb
      match i - M.length, hb with
      | 0, hb => simp at hb; rw [← hb]; simp
      | 1, hb => simp at hb; rw [← hb]; simp
  · refine ⟨_, app_genK ho (by omega), by simp, ?_, ?_, ?_⟩
    · unfold OwnR
      rw [List.getElem?_append_right (by simp)]
      simp
    · intro i hi hir
      rw [List.getElem?_append_left (by simp; omega), List.getElem?_append_left (by simpa using hi), List.getElem?_set_ne (Ne.symm (hir hne))]
    · intro i b hi hb
      by_cases hlt : i < M.length
      · have hir : i = r := by
          rcases hi with ⟨h, _⟩ | h
          · exact h
          · omega
        subst hir
        rw [List.getElem?_append_left (by simp; omega), List.getElem?_append_left (by simpa using hlt), List.getElem?_set_self hlt] at hb
        cases hb
        simp [deadB]
      · rw [List.append_assoc, List.getElem?_append_right (by simp; omega)] at hb
        simp only [List.length_set] at hb
        match i - M.length, hb with
        | 0, hb => simp at hb; rw [← hb]; simp
        | 1, hb => simp at hb; rw [← hb]; simp
end Go.Proofs.Ytckpfgkgigicpaa.Ab
end
section
namespace Go.Proofs.Ytckpfgkgigicpaa
open Go.RowKit Go.ChangeShapes Go.WideShapes Go.ChangeAt
open Go.WideMaps Go.WideElems
set_option linter.unusedVariables false
section
variable {H : Type} {enc : TypeId × Value → H} {W : World}
def pairC (p : Int × Int) : List Value := [.int .i64 p.1, .int .i64 p.2]
def pairsC (L : List (Int × Int)) : List Value := (L.map pairC).flatten
theorem pairsC_len (L : List (Int × Int)) : (pairsC L).length = L.length * 2 := by
  induction L with
  | nil => rfl
  | cons p L ih => simp only [pairsC, List.map_cons, List.flatten_cons, List.length_append, List.length_cons] at ih ⊢; rw [ih]; simp [pairC]; omega
theorem pairsC_app (L K : List (Int × Int)) : pairsC (L ++ K) = pairsC L ++ pairsC K := by simp [pairsC]
theorem pairsC_at : ∀ (L : List (Int × Int)) (k : Nat), k < L.length → (pairsC L)[k * 2]? = some (.int .i64 (L.getD k (0, 0)).1) ∧ (pairsC L)[k * 2 + 1]? = some (.int .i64 (L.getD k (0, 0)).2)
  | p :: L, 0, _ => ⟨rfl, rfl⟩
  | p :: L, k + 1, h => by
    have ih := pairsC_at L k (by simpa using h)
    have e1 : (k + 1) * 2 = k * 2 + 1 + 1 := by omega
    rw [e1]
    exact ⟨ih.1, ih.2⟩
  | [], k, h => absurd h (by simp)
end
end Go.Proofs.Ytckpfgkgigicpaa
end
section
namespace Go.Proofs.Ytckpfgkgigicpaa.Ab
open Go Go.RowKit
set_option linter.unusedVariables false
set_option linter.unusedSimpArgs false
def Lv (lo hi : Nat) (m : Mem) (P : Mem → Prop) : Prop := lo ≤ hi ∧ hi ≤ m.length ∧ ∀ m' : Mem, (∀ i, lo ≤ i → i < hi → m'[i]? = m[i]?) → P m'
def But (lo hi : Nat) (m m' : Mem) : Prop := m.length ≤ m'.length ∧ ∀ i, i < m.length → (i < lo ∨ hi ≤ i) → m'[i]? = m[i]?
section
variable {lo hi a b : Nat} {m m' : Mem} {P : Mem → Prop}
theorem Lv.now (h : Lv lo hi m P) : P m := h.2.2 m fun _ _ _ => rfl
theorem Lv.ext (h : Lv lo hi m P) (new : Mem) : Lv lo hi (m ++ new) P :=
  ⟨h.1, by have := h.2.1; rw [List.length_append]; omega, fun m' h' => h.2.2 m' fun i h1 h2 => by rw [h' i h1 h2, List.getElem?_append_left (by have := h.2.1; omega)]⟩
theorem Lv.but (h : Lv a b m P) (hb : But lo hi m m') (hd : b ≤ lo ∨ hi ≤ a) : Lv a b m' P :=
  ⟨h.1, Nat.le_trans h.2.1 hb.1, fun m2 h2 => h.2.2 m2 fun i h3 h4 => by rw [h2 i h3 h4]; exact hb.2 i (by have := h.2.1; omega) (by omega)⟩
theorem Lv.mono {Q : Mem → Prop} (h : Lv lo hi m P) (hq : ∀ M, P M → Q M) : Lv lo hi m Q := ⟨h.1, h.2.1, fun m' h' => hq _ (h.2.2 m' h')⟩
theorem Lv.wider (h : Lv lo hi m P) (h1 : a ≤ lo) (h2 : hi ≤ b) (h3 : b ≤ m.length) : Lv a b m P :=
  ⟨by have := h.1; omega, h3, fun m' h' => h.2.2 m' fun i h4 h5 => h' i (by omega) (by omega)⟩
theorem Lv.ro (h : Lv lo hi m P) (hp : ∀ M, P M → P (roM M)) : P (roM m) := hp _ h.now
theorem Lv.all (hx : ∀ new, P (m ++ new)) : Lv 0 m.length m P :=
  ⟨Nat.zero_le _, Nat.le_refl _, fun m' h' => by
    have e : m' = m ++ m'.drop m.length := by
      apply List.ext_getElem?
      intro i
      by_cases hi : i < m.length
      · rw [List.getElem?_append_left hi]; exact h' i (by omega) hi
      · rw [List.getElem?_append_right (by omega), List.getElem?_drop]; congr 1; omega
    rw [e]; exact hx _⟩
theorem But.refl (lo hi : Nat) (m : Mem) : But lo hi m m := ⟨Nat.le_refl _, fun _ _ _ => rfl⟩
theorem But.ext (h : But lo hi m m') (new : Mem) : But lo hi m (m' ++ new) :=
  ⟨by have := h.1; rw [List.length_append]; omega, fun i h1 h2 => by rw [List.getElem?_append_left (by have := h.1; omega)]; exact h.2 i h1 h2⟩
theorem But.set (h : But lo hi m m') {id : Nat} (h1 : lo ≤ id) (h2 : id < hi) (x : Blk) : But lo hi m (m'.set id x) :=
  ⟨by rw [List.length_set]; exact h.1, fun i h3 h4 => by rw [List.getElem?_set_ne (by omega)]; exact h.2 i h3 h4⟩
theorem But.wider {lo' hi' : Nat} (h : But lo hi m m') (h1 : lo' ≤ lo) (h2 : hi ≤ hi') : But lo' hi' m m' := ⟨h.1, fun i h3 h4 => h.2 i h3 (by omega)⟩
theorem But.trans {m2 : Mem} (h : But lo hi m m') (h' : But lo hi m' m2) : But lo hi m m2 :=
  ⟨Nat.le_trans h.1 h'.1, fun i h1 h2 => by rw [h'.2 i (by have := h.1; omega) h2]; exact h.2 i h1 h2⟩
theorem But.base {new : Mem} (h : But lo hi (m ++ new) m') : But lo hi m m' :=
  ⟨by have := h.1; rw [List.length_append] at this; omega, fun i h1 h2 => by rw [h.2 i (by rw [List.length_append]; omega) h2, List.getElem?_append_left h1]⟩
end
def AnsO (m : Mem) (O : Nat → Nat → Mem → Value → Prop) (f : Value → Value) (r : Value) (new : Mem) : Prop :=
  NoRo new ∧ ∃ v, r = f v ∧ Lv m.length (m.length + new.length) (m ++ new) fun M => O m.length (m.length + new.length) M v
theorem ext_ansO {m M : Mem} {O : Nat → Nat → Mem → Value → Prop} {f : Value → Value} {v : Value} (h : Ext m M) (hO : ∀ M', (∀ i, m.length ≤ i → i < M.length → M'[i]? = M[i]?) → O m.length M.length M' v) : newQ m (AnsO m O f) (f v) M := by
  obtain ⟨n0, rfl, h0⟩ := h
  have hl : (roM m ++ n0).length = m.length + n0.length := by rw [List.length_append, roM_len]
  refine ⟨n0, rfl, h0, h0, v, rfl, by omega, by rw [List.length_append]; omega, fun M' hM => ?_⟩
  rw [← hl]
  refine hO M' fun i h1 h2 => ?_
  rw [hl] at h2
  rw [hM i h1 h2, List.getElem?_append_right h1, List.getElem?_append_right (by rw [roM_len]; exact h1), roM_len]

def OwnB (M : Mem) (id : Nat) (e : TypeId) (cs : List Value) : Prop := M[id]? = some ⟨.own, e, cs⟩
section
variable {M M' : Mem} {id id' : Nat} {e e' : TypeId} {cs cs' : List Value}
theorem OwnB.lt (h : OwnB M id e cs) : id < M.length := (List.getElem?_eq_some_iff.1 h).1
theorem OwnB.ext (h : OwnB M id e cs) (R : Mem) : OwnB (M ++ R) id e cs := by
  unfold OwnB; rw [List.getElem?_append_left h.lt]; exact h
theorem OwnB.set_ne (h : OwnB M id' e cs) (hne : id ≠ id') (b : Blk) : OwnB (M.set id b) id' e cs := by
  unfold OwnB; rw [List.getElem?_set_ne hne]; exact h
theorem OwnB.set_self (h : OwnB M id e cs) (e' : TypeId) (cs' : List Value) : OwnB (M.set id ⟨.own, e', cs'⟩) id e' cs' := by
  unfold OwnB; rw [List.getElem?_set_self h.lt]
theorem OwnB.ne (h : OwnB M id e cs) (h' : OwnB M id' e' cs') (he : e ≠ e') : id ≠ id' := fun hi => by
  subst hi
  unfold OwnB at h h'
  rw [h] at h'
  cases h'
  exact he rfl
theorem OwnB.rd (h : OwnB M id e cs) (k : Nat) : rdc M id k = cs[k]? := by
  unfold OwnB at h; simp [rdc, h]
theorem OwnB.here (h : id = M.length) : OwnB (M ++ [⟨.own, e, cs⟩]) id e cs := by unfold OwnB; rw [h]; simp
theorem OwnB.st (h : OwnB M id e cs) {off : Nat} {vs : List Value} (h2 : off + vs.length ≤ cs.length) (h1 : onesB vs = true) : stA M id off vs = some (M.set id ⟨.own, e, putL cs off vs⟩) := by
  unfold OwnB at h; simp [stA, h, h1, h2]
theorem OwnB.rdl (h : OwnB M id e cs) {k : Nat} (hk : k = cs.length) : rdl M id 0 k = some cs := by
  unfold OwnB at h
  subst hk
  simp [Ab.rdl, h]
theorem OwnB.at_ (h : OwnB M id e cs) (h2 : M'[id]? = M[id]?) : OwnB M' id e cs := by unfold OwnB; rw [h2]; exact h
theorem OwnR.at_ {l : List Int} (h : OwnR M id l) (h2 : M'[id]? = M[id]?) : OwnR M' id l := by unfold OwnR; rw [h2]; exact h
end
def IntsO (l : List Int) (lo hi : Nat) (M : Mem) (v : Value) : Prop :=
  l.length ≤ 1048576 ∧ ∃ id fl, v = .slice (some ⟨id, 0, none⟩) l.length fl ∧ lo ≤ id ∧ id < hi ∧ OwnR M id l
theorem IntsO.in {l : List Int} {lo hi : Nat} {M : Mem} {v : Value} (h : IntsO l lo hi M v) : IntsA M v l := by
  obtain ⟨hl, id, fl, rfl, _, _, ho⟩ := h
  exact ho.ints (by omega) fl
theorem IntsA.ownO {l : List Int} {lo hi id fl : Nat} {M : Mem} (h : OwnR M id l) (hl : l.length ≤ 1048576) (h1 : lo ≤ id) (h2 : id < hi) : IntsO l lo hi M (.slice (some ⟨id, 0, none⟩) l.length fl) := ⟨hl, id, fl, rfl, h1, h2, h⟩
theorem IntsO.lv {l : List Int} {lo hi : Nat} {m : Mem} {v : Value} (h : IntsO l lo hi m v) (h1 : hi ≤ m.length) : Lv lo hi m fun M => IntsO l lo hi M v := by
  obtain ⟨hl, id, fl, rfl, a, b, ho⟩ := h
  exact ⟨by omega, h1, fun m' h' => ⟨hl, id, fl, rfl, a, b, ho.at_ (h' id a b)⟩⟩
theorem AnsL.obj {m : Mem} {l : List Int} {ok : Bool} {r : Value} {new : Mem} (h : AnsL m l ok r new) : AnsO m (IntsO l) (fun v => .tuple #[v, .bool ok]) r new := by
  obtain ⟨hn, hl, i, fl, rfl, hi⟩ := h
  have hlt := (List.getElem?_eq_some_iff.1 hi).1
  exact ⟨hn, _, rfl, IntsO.lv ⟨hl, _, fl, rfl, by omega, by omega, OwnR.new hi rfl⟩ (by simp)⟩

def PairsA (m : Mem) (v : Value) (L : List (Int × Int)) : Prop :=
  L.length ≤ 9223372036854775807 ∧ ∃ id fl, v = .slice (some ⟨id, 0, none⟩) L.length fl ∧ ∀ k, k < L.length → rdc m id (k * 2) = some (.int .i64 (L.getD k (0, 0)).1) ∧ rdc m id (k * 2 + 1) = some (.int .i64 (L.getD k (0, 0)).2)
theorem PairsA.ext {m : Mem} {v : Value} {L : List (Int × Int)} (h : PairsA m v L) (new : Mem) : PairsA (m ++ new) v L := by
  obtain ⟨hb, id, fl, rfl, hc⟩ := h
  exact ⟨hb, id, fl, rfl, fun k hk => ⟨rdc_ext (hc k hk).1, rdc_ext (hc k hk).2⟩⟩
theorem PairsA.ro {m : Mem} {v : Value} {L : List (Int × Int)} (h : PairsA m v L) : PairsA (roM m) v L := by
  obtain ⟨hb, id, fl, rfl, hc⟩ := h
  exact ⟨hb, id, fl, rfl, fun k hk => by rw [rdc_roM, rdc_roM]; exact hc k hk⟩
def PairsO (e : TypeId) (L : List (Int × Int)) (lo hi : Nat) (M : Mem) (v : Value) : Prop :=
  L.length ≤ 1048576 ∧ ∃ id fl, v = .slice (some ⟨id, 0, none⟩) L.length fl ∧ lo ≤ id ∧ id < hi ∧ OwnB M id e (pairsC L)
theorem PairsO.in {e : TypeId} {L : List (Int × Int)} {lo hi : Nat} {M : Mem} {v : Value} (h : PairsO e L lo hi M v) : PairsA M v L := by
  obtain ⟨hl, id, fl, rfl, _, _, ho⟩ := h
  exact ⟨by omega, id, fl, rfl, fun k hk => by rw [ho.rd, ho.rd]; exact pairsC_at L k hk⟩
theorem PairsO.lv {e : TypeId} {L : List (Int × Int)} {lo hi : Nat} {m : Mem} {v : Value} (h : PairsO e L lo hi m v) (h1 : hi ≤ m.length) : Lv lo hi m fun M => PairsO e L lo hi M v := by
  obtain ⟨hl, id, fl, rfl, a, b, ho⟩ := h
  exact ⟨by omega, h1, fun m' h' => ⟨hl, id, fl, rfl, a, b, ho.at_ (h' id a b)⟩⟩
structure TabA (m : Mem) (v : Value) (T : List (List Int)) : Prop where
  len : lenA v = some (.int .i64 T.length)
  bd : T.length ≤ 9223372036854775807
  at_ : ∀ k, k < T.length → iadA 1 v (.int .i64 (k : Int)) = some (pAt v k)
  ld : ∀ k, k < T.length → ∃ u, ldA m none (pAt v k) = some u ∧ IntsA m u (T.getD k [])
  fm : ∃ id fl, v = .slice (some ⟨id, 0, none⟩) T.length fl
theorem TabA.ext {m : Mem} {v : Value} {T : List (List Int)} (h : TabA m v T) (new : Mem) : TabA (m ++ new) v T :=
  ⟨h.len, h.bd, h.at_, fun k hk => by obtain ⟨u, h1, h2⟩ := h.ld k hk; exact ⟨u, ldA_ext h1, h2.ext new⟩, h.fm⟩
theorem TabA.ro {m : Mem} {v : Value} {T : List (List Int)} (h : TabA m v T) : TabA (roM m) v T :=
  ⟨h.len, h.bd, h.at_, fun k hk => by obtain ⟨u, h1, h2⟩ := h.ld k hk; exact ⟨u, by rw [ldA_roM]; exact h1, h2.ro⟩, h.fm⟩
theorem TabA.blk {m : Mem} {id fl : Nat} {T : List (List Int)} (hb : T.length ≤ 9223372036854775807) (h : ∀ k, k < T.length → ∃ u, rdc m id k = some u ∧ IntsA m u (T.getD k [])) : TabA m (.slice (some ⟨id, 0, none⟩) T.length fl) T := by
  refine ⟨rfl, hb, fun k hk => ?_, fun k hk => ?_, _, _, rfl⟩
  · simp only [iadA, pAt, Int.toNat_natCast, Nat.mul_one]
    rw [if_pos (by omega)]
  · obtain ⟨u, h1, h2⟩ := h k hk
    exact ⟨u, by simp only [pAt, ldA, Nat.zero_add]; exact h1, h2⟩
def tsz (T : List (List Int)) : Nat → Int
  | 0 => 0
  | k + 1 => tsz T k + ((T.getD k []).length : Int)
theorem tsz_le (T : List (List Int)) {j k : Nat} (h : j ≤ k) : tsz T j ≤ tsz T k := by
  induction k with
  | zero => rw [show j = 0 by omega]; exact Int.le_refl _
  | succ k ih =>
    by_cases e : j = k + 1
    · rw [e]; exact Int.le_refl _
    · have := ih (by omega)
      simp only [tsz]; omega
theorem tsz_row (T : List (List Int)) {j k : Nat} (h : j < k) : ((T.getD j []).length : Int) ≤ tsz T k := by
  have h1 := tsz_le T (j := j + 1) (k := k) (by omega)
  have h2 := tsz_le T (j := 0) (k := j) (by omega)
  simp only [tsz] at h1 h2; omega
def rowsC (T : List (List Int)) (R F : Nat → Nat) : List Value := (List.range T.length).map fun j => .slice (some ⟨R j, 0, none⟩) (T.getD j []).length (F j)
theorem rowsC_len (T : List (List Int)) (R F : Nat → Nat) : (rowsC T R F).length = T.length := by simp [rowsC]
theorem rowsC_at {T : List (List Int)} {R F : Nat → Nat} {j : Nat} (h : j < T.length) : (rowsC T R F)[j]? = some (.slice (some ⟨R j, 0, none⟩) (T.getD j []).length (F j)) := by
  simp [rowsC, h]
def TabO (T : List (List Int)) (lo hi : Nat) (M : Mem) (v : Value) : Prop :=
  T.length ≤ 1048576 ∧ tsz T T.length ≤ 1048576 ∧ ∃ id fl R F, v = .slice (some ⟨id, 0, none⟩) T.length fl ∧ lo ≤ id ∧ id < hi ∧ OwnB M id 24 (rowsC T R F) ∧
    (∀ j, j < T.length → lo ≤ R j ∧ R j < hi ∧ OwnR M (R j) (T.getD j [])) ∧ ∀ i j, i < T.length → j < T.length → R i = R j → i = j
theorem TabO.in {T : List (List Int)} {lo hi : Nat} {M : Mem} {v : Value} (h : TabO T lo hi M v) : TabA M v T := by
  obtain ⟨hl, hs, id, fl, R, F, rfl, _, _, ho, hr, _⟩ := h
  exact TabA.blk (by omega) fun k hk => ⟨_, by rw [ho.rd]; exact rowsC_at hk, (hr k hk).2.2.ints (by have := tsz_row T hk; omega) _⟩
theorem TabO.lv {T : List (List Int)} {lo hi : Nat} {m : Mem} {v : Value} (h : TabO T lo hi m v) (h1 : hi ≤ m.length) : Lv lo hi m fun M => TabO T lo hi M v := by
  obtain ⟨hl, hs, id, fl, R, F, rfl, a, b, ho, hr, hd⟩ := h
  exact ⟨by omega, h1, fun m' h' => ⟨hl, hs, id, fl, R, F, rfl, a, b, ho.at_ (h' id a b), fun j hj => by
    obtain ⟨c, d, e⟩ := hr j hj
    exact ⟨c, d, e.at_ (h' _ c d)⟩, hd⟩⟩
end Go.Proofs.Ytckpfgkgigicpaa.Ab
end
section
namespace Go.Proofs.Ytckpfgkgigicpaa.Ab
open Go Go.RowKit
set_option linter.unusedVariables false
set_option linter.unusedSimpArgs false
theorem iada_0 (id off n : Nat) : iadaA 1 (n + 1) (.pointer (some ⟨id, off, none⟩)) (.int .i64 0) = some (.pointer (some ⟨id, off, none⟩)) := by
  simp [iadaA]
theorem iada_1 (id off n : Nat) : iadaA 1 (n + 2) (.pointer (some ⟨id, off, none⟩)) (.int .i64 1) = some (.pointer (some ⟨id, off + 1, none⟩)) := by
  simp [iadaA]
  omega
end Go.Proofs.Ytckpfgkgigicpaa.Ab
end
section
namespace Go.Proofs.Ytckpfgkgigicpaa
set_option linter.unusedVariables false
theorem sumTo_sD {l : List Int} {k : Nat} (h : k < l.length) : sumTo l (k + 1) = sumTo l k + l.getD k 0 := by
  rw [sumTo_succ (List.getElem?_eq_getElem h), List.getD_eq_getElem?_getD, List.getElem?_eq_getElem h]; rfl

structure Dist (w : List Int) : Prop where
  l16 : w.length ≤ 16
  wt : ∀ x ∈ w, 0 ≤ x ∧ x ≤ 1000
  pos : 0 < sumTo w w.length
theorem Dist.at_ {w : List Int} (h : Dist w) (k : Nat) : 0 ≤ w.getD k 0 ∧ w.getD k 0 ≤ 1000 := by
  by_cases hk : k < w.length
  · rw [List.getD_eq_getElem?_getD, List.getElem?_eq_getElem hk]; exact h.wt _ (List.getElem_mem hk)
  · rw [List.getD_eq_getElem?_getD, List.getElem?_eq_none (by omega)]; exact ⟨by decide, by decide⟩
theorem Dist.len {w : List Int} (h : Dist w) : 1 ≤ w.length := by
  have := h.pos
  rcases Nat.eq_zero_or_pos w.length with e | e
  · rw [e, sumTo_zero] at this; omega
  · exact e
theorem Dist.sum {w : List Int} (h : Dist w) (k : Nat) : 0 ≤ sumTo w k ∧ sumTo w k ≤ 1000 * k := sumTo_bound (by decide) h.wt k
def wsum (w : List Int) (f : Nat → Int) : Nat → Int
  | 0 => 0
  | k + 1 => wsum w f k + w.getD k 0 * f k
theorem wsum_s (w : List Int) (f : Nat → Int) (k : Nat) : wsum w f (k + 1) = wsum w f k + w.getD k 0 * f k := rfl
def tot (w : List Int) : Int := sumTo w w.length
theorem getD_set {l : List Int} {i j : Nat} {x : Int} (hi : i < l.length) : (l.set i x).getD j 0 = if j = i then x else l.getD j 0 := by
  rw [List.getD_eq_getElem?_getD, List.getElem?_set]
  by_cases e : i = j
  · subst e; rw [if_pos rfl, if_pos hi, if_pos rfl]; rfl
  · rw [if_neg e, if_neg (fun h => e h.symm), List.getD_eq_getElem?_getD]
end Go.Proofs.Ytckpfgkgigicpaa
end
section
namespace Go.Proofs.Ytckpfgkgigicpaa
set_option linter.unusedVariables false
structure Pr where
  turns : Int
  w : List Int
  setup : Int
  unit : Int
  hold : Int
  back : Int
def Pr.whole (p : Pr) : Int := sumTo p.w p.w.length
def inZ (most x : Int) : Bool := decide (0 ≤ x) && decide (x ≤ most)
def Pr.wB (w : List Int) : Bool := decide (w.length ≤ 5) && rowB w w.length 4 && decide (0 < sumTo w w.length)
def Pr.good (p : Pr) : Bool := inZ 5 p.turns && Pr.wB p.w && inZ 99 p.setup && inZ 9 p.unit && inZ 9 p.hold && inZ 9 p.back
structure GoodP (p : Pr) : Prop where
  turns : 0 ≤ p.turns ∧ p.turns ≤ 5
  len : 1 ≤ p.w.length ∧ p.w.length ≤ 5
  wt : ∀ x ∈ p.w, 0 ≤ x ∧ x ≤ 4
  pos : 1 ≤ p.whole ∧ p.whole ≤ 20
  setup : 0 ≤ p.setup ∧ p.setup ≤ 99
  unit : 0 ≤ p.unit ∧ p.unit ≤ 9
  hold : 0 ≤ p.hold ∧ p.hold ≤ 9
  back : 0 ≤ p.back ∧ p.back ≤ 9
theorem goodP_iff {p : Pr} : p.good = true ↔ GoodP p := by
  simp only [Pr.good, Pr.wB, inZ, Bool.and_eq_true, decide_eq_true_eq, rowB_iff]
  constructor
  · rintro ⟨⟨⟨⟨⟨h1, ⟨h2, h3, _⟩, h4⟩, h5⟩, h6⟩, h7⟩, h8⟩
    have hs := sumTo_bound (l := p.w) (m := 4) (by decide) h3 p.w.length
    refine ⟨h1, ⟨?_, h2⟩, h3, ⟨h4, ?_⟩, h5, h6, h7, h8⟩
    · rcases Nat.eq_zero_or_pos p.w.length with e | e
      · rw [e, sumTo_zero] at h4; omega
      · exact e
    · unfold Pr.whole; omega
  · intro h
    exact ⟨⟨⟨⟨⟨h.turns, ⟨h.len.2, h.wt, trivial⟩, by have := h.pos; unfold Pr.whole at this; omega⟩, h.setup⟩, h.unit⟩, h.hold⟩, h.back⟩
theorem GoodP.at_ {p : Pr} (h : GoodP p) (k : Nat) : 0 ≤ p.w.getD k 0 ∧ p.w.getD k 0 ≤ 4 := by
  by_cases hk : k < p.w.length
  · rw [List.getD_eq_getElem?_getD, List.getElem?_eq_getElem hk]; exact h.wt _ (List.getElem_mem hk)
  · rw [List.getD_eq_getElem?_getD, List.getElem?_eq_none (by omega)]; exact ⟨by decide, by decide⟩
theorem GoodP.sum {p : Pr} (h : GoodP p) (k : Nat) : 0 ≤ sumTo p.w k ∧ sumTo p.w k ≤ 4 * k := sumTo_bound (by decide) h.wt k

def Pr.pow (p : Pr) : Nat → Int
  | 0 => 1
  | n + 1 => p.pow n * p.whole
theorem mul_in' {a x A B : Int} (h1 : 0 ≤ a ∧ a ≤ A) (h2 : 0 ≤ x ∧ x ≤ B) : 0 ≤ a * x ∧ a * x ≤ A * B := by
  refine ⟨Int.mul_nonneg h1.1 h2.1, ?_⟩
  have a1 : a * x ≤ A * x := Int.mul_le_mul_of_nonneg_right h1.2 h2.1
  have a2 : A * x ≤ A * B := Int.mul_le_mul_of_nonneg_left h2.2 (by omega)
  omega
theorem GoodP.pow {p : Pr} (h : GoodP p) (n : Nat) : 1 ≤ p.pow n ∧ p.pow n ≤ 20 ^ n := by
  induction n with
  | zero => simp [Pr.pow]
  | succ n ih =>
    have hp := h.pos
    have h1 := mul_in' (a := p.pow n) (x := p.whole) (A := 20 ^ n) (B := 20) (by omega) (by omega)
    have h2 : 1 * 1 ≤ p.pow n * p.whole := Int.mul_le_mul ih.1 hp.1 (by decide) (by omega)
    rw [Pr.pow, Int.pow_succ]
    omega
theorem GoodP.pow5 {p : Pr} (h : GoodP p) {n : Nat} (hn : n ≤ 5) : 1 ≤ p.pow n ∧ p.pow n ≤ 3200000 := by
  have h1 := h.pow n
  have : n = 0 ∨ n = 1 ∨ n = 2 ∨ n = 3 ∨ n = 4 ∨ n = 5 := by omega
  rcases this with rfl | rfl | rfl | rfl | rfl | rfl <;> simp at h1 ⊢ <;> omega
def Pr.floor (p : Pr) : Int := p.w.length - 1 - 10
theorem GoodP.floor {p : Pr} (h : GoodP p) : -10 ≤ p.floor ∧ p.floor ≤ -6 := by
  have := h.len
  unfold Pr.floor; omega
def Pr.kept (p : Pr) (x : Int) : Int := if 0 < x then p.hold * x else -p.back * x
theorem GoodP.kept {p : Pr} (h : GoodP p) {x : Int} (hx : -10 ≤ x ∧ x ≤ 10) : 0 ≤ p.kept x ∧ p.kept x ≤ 90 := by
  unfold Pr.kept
  by_cases hp : 0 < x
  · rw [if_pos hp]; exact mul_in' (A := 9) (B := 10) h.hold (by omega)
  · rw [if_neg hp, Int.neg_mul, ← Int.mul_neg]; exact mul_in' (A := 9) (B := 10) h.back (by omega)
def Pr.part (p : Pr) (next : List Int) (y : Int) (n : Nat) (d : Nat) : Int := p.kept (y - d) * p.pow n + next.getD (y - d + 10).toNat 0
def Pr.after (p : Pr) (next : List Int) (y : Int) (n : Nat) : Int := wsum p.w (p.part next y n) p.w.length
def Pr.ord (p : Pr) (x y : Int) : Int := if x < y then p.setup + p.unit * (y - x) else 0
def Pr.move (p : Pr) (next : List Int) (x y : Int) (n : Nat) : Int := p.ord x y * p.pow (n + 1) + p.after next y n
def Pr.bill (p : Pr) (next : List Int) (y : Int) (n : Nat) : Int := p.unit * y * p.pow (n + 1) + p.after next y n
def Pr.lo (p : Pr) (x : Int) : Int := max x p.floor
def rowIn (B : Int) (next : List Int) : Prop := ∀ k, k < 21 → -B ≤ next.getD k 0 ∧ next.getD k 0 ≤ B
theorem GoodP.part {p : Pr} (h : GoodP p) {next : List Int} {B : Int} (hB : rowIn B next) {y : Int} {n d : Nat} (hn : n ≤ 4) (h1 : -10 ≤ y - d) (h2 : y - d ≤ 10) :
    0 ≤ p.kept (y - d) * p.pow n ∧ p.kept (y - d) * p.pow n ≤ 288000000 ∧ -B ≤ p.part next y n d ∧ p.part next y n d ≤ 288000000 + B := by
  have hq := h.pow5 (n := n) (by omega)
  have a := mul_in' (A := 90) (B := 3200000) (h.kept ⟨h1, h2⟩) (x := p.pow n) (by omega)
  have b := hB (y - d + 10).toNat (by omega)
  unfold Pr.part
  refine ⟨a.1, by omega, ?_, ?_⟩ <;> omega
theorem wt_in {x y B C : Int} (h1 : 0 ≤ x ∧ x ≤ 4) (h2 : -B ≤ y ∧ y ≤ C) (hB : 0 ≤ B) (hC : 0 ≤ C) : -(4 * B) ≤ x * y ∧ x * y ≤ 4 * C := by
  rcases Int.le_total 0 y with hy | hy
  · have := mul_in' (a := x) (x := y) (A := 4) (B := C) h1 ⟨hy, h2.2⟩; omega
  · have := mul_in' (a := x) (x := -y) (A := 4) (B := B) h1 ⟨by omega, by omega⟩
    rw [Int.mul_neg] at this; omega
theorem GoodP.term {p : Pr} (h : GoodP p) {next : List Int} {B : Int} (hB : rowIn B next) (h0 : 0 ≤ B) {y : Int} {n d : Nat} (hn : n ≤ 4) (h1 : -10 ≤ y - d) (h2 : y - d ≤ 10) :
    -(4 * B) ≤ p.w.getD d 0 * p.part next y n d ∧ p.w.getD d 0 * p.part next y n d ≤ 4 * (288000000 + B) := by
  have a := h.part hB hn h1 h2
  exact wt_in (h.at_ d) ⟨a.2.2.1, a.2.2.2⟩ h0 (by omega)
def Pr.may (p : Pr) (y : Int) : Prop := p.floor ≤ y ∧ y ≤ 10
theorem Pr.may.lv {p : Pr} {y : Int} (h : p.may y) {d : Nat} (hd : d < p.w.length) : -10 ≤ y - d ∧ y - d ≤ 10 := by
  unfold Pr.may Pr.floor at h; omega
theorem GoodP.wsum {p : Pr} (h : GoodP p) {next : List Int} {B : Int} (hB : rowIn B next) (h0 : 0 ≤ B) {y : Int} {n : Nat} (hn : n ≤ 4) (hy : p.may y) : ∀ (k : Nat), k ≤ p.w.length →
    -(4 * B) * k ≤ wsum p.w (p.part next y n) k ∧ wsum p.w (p.part next y n) k ≤ 4 * (288000000 + B) * k
  | 0, _ => by simp [Go.Proofs.Ytckpfgkgigicpaa.wsum]
  | k + 1, hk => by
    have ih := GoodP.wsum h hB h0 hn hy k (by omega)
    have a := hy.lv (d := k) (by omega)
    have t := h.term hB h0 hn a.1 a.2
    rw [wsum_s, Int.natCast_add, Int.mul_add, Int.mul_add]
    omega
theorem GoodP.after {p : Pr} (h : GoodP p) {next : List Int} {B : Int} (hB : rowIn B next) (h0 : 0 ≤ B) {y : Int} {n : Nat} (hn : n ≤ 4) (hy : p.may y) :
    -(20 * B) ≤ p.after next y n ∧ p.after next y n ≤ 20 * (288000000 + B) := by
  have a := h.wsum hB h0 hn hy p.w.length (Nat.le_refl _)
  have l := h.len
  have : (p.w.length : Int) = 1 ∨ (p.w.length : Int) = 2 ∨ (p.w.length : Int) = 3 ∨ (p.w.length : Int) = 4 ∨ (p.w.length : Int) = 5 := by omega
  unfold Pr.after
  rcases this with e | e | e | e | e <;> rw [e] at a <;> omega
theorem GoodP.ord {p : Pr} (h : GoodP p) {x y : Int} (hx : -10 ≤ x) (hy : y ≤ 10) : 0 ≤ p.ord x y ∧ p.ord x y ≤ 279 := by
  unfold Pr.ord
  by_cases hp : x < y
  · rw [if_pos hp]
    have a := mul_in' (A := 9) (B := 20) h.unit (x := y - x) (by omega)
    have := h.setup
    omega
  · rw [if_neg hp]; omega
theorem GoodP.move {p : Pr} (h : GoodP p) {next : List Int} {B : Int} (hB : rowIn B next) (h0 : 0 ≤ B) {x y : Int} {n : Nat} (hn : n ≤ 4) (hx : -10 ≤ x) (hy : p.may y) :
    0 ≤ p.ord x y * p.pow (n + 1) ∧ p.ord x y * p.pow (n + 1) ≤ 892800000 ∧ -(20 * B) ≤ p.move next x y n ∧ p.move next x y n ≤ 892800000 + 20 * (288000000 + B) := by
  have hq := h.pow5 (n := n + 1) (by omega)
  have a := mul_in' (A := 279) (B := 3200000) (h.ord hx hy.2) (x := p.pow (n + 1)) (by omega)
  have b := h.after hB h0 hn hy
  unfold Pr.move
  refine ⟨a.1, by omega, ?_, ?_⟩ <;> omega

def IsLeast (c : Int → Int) (lo hi b : Int) : Prop := lo ≤ b ∧ b ≤ hi ∧ (∀ y, lo ≤ y → y ≤ hi → c b ≤ c y) ∧ ∀ y, lo ≤ y → y < b → c b < c y
theorem IsLeast.uniq {c : Int → Int} {lo hi a b : Int} (h : IsLeast c lo hi a) (h' : IsLeast c lo hi b) : a = b := by
  obtain ⟨a1, a2, a3, a4⟩ := h
  obtain ⟨b1, b2, b3, b4⟩ := h'
  rcases Int.lt_trichotomy a b with e | e | e
  · have := b4 a a1 e; have := a3 b b1 b2; omega
  · exact e
  · have := a4 b b1 e; have := b3 a a1 a2; omega
theorem IsLeast.one (c : Int → Int) (a : Int) : IsLeast c a a a := ⟨Int.le_refl _, Int.le_refl _, fun y h1 h2 => by rw [show y = a by omega]; exact Int.le_refl _, fun y h1 h2 => by omega⟩
theorem IsLeast.up {c : Int → Int} {lo hi b : Int} (h : IsLeast c lo hi b) : IsLeast c lo (hi + 1) (if c (hi + 1) < c b then hi + 1 else b) := by
  obtain ⟨a1, a2, a3, a4⟩ := h
  by_cases hc : c (hi + 1) < c b
  · rw [if_pos hc]
    refine ⟨by omega, Int.le_refl _, fun y h1 h2 => ?_, fun y h1 h2 => ?_⟩
    · rcases Int.lt_or_le hi y with e | e
      · rw [show y = hi + 1 by omega]; exact Int.le_refl _
      · have := a3 y h1 e; omega
    · have := a3 y h1 (by omega); omega
  · rw [if_neg hc]
    refine ⟨a1, by omega, fun y h1 h2 => ?_, a4⟩
    rcases Int.lt_or_le hi y with e | e
    · rw [show y = hi + 1 by omega]; omega
    · exact a3 y h1 e
theorem IsLeast.down {c : Int → Int} {lo hi b : Int} (h : IsLeast c lo hi b) : IsLeast c (lo - 1) hi (if c (lo - 1) ≤ c b then lo - 1 else b) := by
  obtain ⟨a1, a2, a3, a4⟩ := h
  by_cases hc : c (lo - 1) ≤ c b
  · rw [if_pos hc]
    refine ⟨Int.le_refl _, by omega, fun y h1 h2 => ?_, fun y h1 h2 => by omega⟩
    rcases Int.lt_or_le y lo with e | e
    · rw [show y = lo - 1 by omega]; exact Int.le_refl _
    · have := a3 y e h2; omega
  · rw [if_neg hc]
    refine ⟨by omega, a2, fun y h1 h2 => ?_, fun y h1 h2 => ?_⟩
    · rcases Int.lt_or_le y lo with e | e
      · rw [show y = lo - 1 by omega]; omega
      · exact a3 y e h2
    · rcases Int.lt_or_le y lo with e | e
      · rw [show y = lo - 1 by omega]; omega
      · exact a4 y e h2
def amin (c : Int → Int) (lo : Int) : Nat → Int
  | 0 => lo
  | n + 1 => if c (lo + n + 1) < c (amin c lo n) then lo + n + 1 else amin c lo n
theorem amin_least (c : Int → Int) (lo : Int) : ∀ n : Nat, IsLeast c lo (lo + n) (amin c lo n)
  | 0 => by simpa [amin] using IsLeast.one c lo
  | n + 1 => by
    have := (amin_least c lo n).up
    rw [amin, Int.natCast_add, ← Int.add_assoc]
    simpa using this
def Pr.up (p : Pr) (next : List Int) (x : Int) (n : Nat) : Int := amin (fun y => p.move next x y n) (p.lo x) (10 - p.lo x).toNat
theorem Pr.lo_in {p : Pr} (h : GoodP p) {x : Int} (hx : -10 ≤ x ∧ x ≤ 10) : x ≤ p.lo x ∧ p.floor ≤ p.lo x ∧ p.lo x ≤ 10 := by
  have := h.floor
  unfold Pr.lo; omega
theorem Pr.up_least {p : Pr} (h : GoodP p) (next : List Int) {x : Int} (hx : -10 ≤ x ∧ x ≤ 10) (n : Nat) : IsLeast (fun y => p.move next x y n) (p.lo x) 10 (p.up next x n) := by
  have a := Pr.lo_in h hx
  have := amin_least (fun y => p.move next x y n) (p.lo x) (10 - p.lo x).toNat
  rwa [show p.lo x + ((10 - p.lo x).toNat : Int) = 10 by omega] at this
theorem Pr.up_may {p : Pr} (h : GoodP p) (next : List Int) {x : Int} (hx : -10 ≤ x ∧ x ≤ 10) (n : Nat) : p.may (p.up next x n) ∧ x ≤ p.up next x n := by
  have a := Pr.lo_in h hx
  have b := Pr.up_least h next hx n
  exact ⟨⟨by have := b.1; omega, b.2.1⟩, by have := b.1; omega⟩
def Pr.rowsN (p : Pr) (ch : Nat → List Int → Int → Int) : Nat → List Int
  | 0 => List.replicate 21 0
  | k + 1 => (List.range 21).map fun (i : Nat) => p.move (p.rowsN ch k) ((i : Int) - 10) (ch k (p.rowsN ch k) ((i : Int) - 10)) k
theorem Pr.rowsN_len (p : Pr) (ch : Nat → List Int → Int → Int) (k : Nat) : (p.rowsN ch k).length = 21 := by
  cases k <;> simp [Pr.rowsN]
theorem Pr.rowsN_at (p : Pr) (ch : Nat → List Int → Int → Int) (k : Nat) {i : Nat} (hi : i < 21) : (p.rowsN ch (k + 1)).getD i 0 = p.move (p.rowsN ch k) ((i : Int) - 10) (ch k (p.rowsN ch k) ((i : Int) - 10)) k := by
  simp [Pr.rowsN, List.getD_eq_getElem?_getD, hi]
def Pr.fair (p : Pr) (ch : Nat → List Int → Int → Int) (N : Nat) : Prop := ∀ k next x, k < N → -10 ≤ x → x ≤ 10 → p.may (ch k next x)
theorem Pr.rows_in {p : Pr} (h : GoodP p) {ch : Nat → List Int → Int → Int} {N : Nat} (hN : N ≤ 5) (hf : p.fair ch N) : ∀ k, k ≤ N → rowIn (20 ^ k * 8000000000 - 8000000000) (p.rowsN ch k)
  | 0, _ => fun i hi => by
    have e : (p.rowsN ch 0).getD i 0 = 0 := by
      rw [Pr.rowsN, List.getD_eq_getElem?_getD, List.getElem?_replicate, if_pos hi]; rfl
    rw [e]; exact ⟨by decide, by decide⟩
  | k + 1, hk => fun i hi => by
    have ih := Pr.rows_in h hN hf k (by omega)
    rw [Pr.rowsN_at p ch k hi]
    have hp : (1 : Int) ≤ 20 ^ k := Int.pow_pos (n := 20) (by decide)
    have hx : (-10 : Int) ≤ (i : Int) - 10 := by omega
    have m := h.move ih (by omega) (n := k) (by omega) hx (hf k (p.rowsN ch k) _ (by omega) hx (by omega))
    rw [Int.pow_succ]
    omega
theorem Pr.rows_big {p : Pr} (h : GoodP p) {ch : Nat → List Int → Int → Int} {N : Nat} (hN : N ≤ 5) (hf : p.fair ch N) {k : Nat} (hk : k ≤ N) : rowIn 30000000000000000 (p.rowsN ch k) := fun i hi => by
  have a := Pr.rows_in h hN hf k hk i hi
  have : k = 0 ∨ k = 1 ∨ k = 2 ∨ k = 3 ∨ k = 4 ∨ k = 5 := by omega
  rcases this with rfl | rfl | rfl | rfl | rfl | rfl <;> simp at a ⊢ <;> omega
def Pr.bestC (p : Pr) : Nat → List Int → Int → Int := fun k next x => p.up next x k
def Pr.upOf (p : Pr) (q : Int × Int) (x : Int) : Int := if x < q.1 ∨ x < p.floor then q.2 else x
theorem Pr.best_fair {p : Pr} (h : GoodP p) (N : Nat) : p.fair p.bestC N := fun k next x _ h1 h2 => (Pr.up_may h next ⟨h1, h2⟩ k).1
def levB (x : Int) : Bool := decide (-10 ≤ x) && decide (x ≤ 10)
def Pr.tab (p : Pr) (ch : Nat → List Int → Int → Int) (N : Nat) : List (List Int) := (List.range (N + 1)).map fun t => p.rowsN ch (N - t)
theorem Pr.tab_len (p : Pr) (ch : Nat → List Int → Int → Int) (N : Nat) : (p.tab ch N).length = N + 1 := by simp [Pr.tab]
theorem Pr.tab_at (p : Pr) (ch : Nat → List Int → Int → Int) {N t : Nat} (h : t ≤ N) : (p.tab ch N).getD t [] = p.rowsN ch (N - t) := by
  simp [Pr.tab, List.getD_eq_getElem?_getD, show t < N + 1 by omega]
theorem Pr.tab_succ (p : Pr) (ch : Nat → List Int → Int → Int) (N : Nat) : p.tab ch (N + 1) = p.rowsN ch (N + 1) :: p.tab ch N := by
  unfold Pr.tab
  rw [List.range_succ_eq_map, List.map_cons, List.map_map]
  congr 1
  apply List.map_congr_left
  intro t ht
  simp
end Go.Proofs.Ytckpfgkgigicpaa
end
section
namespace Go.Proofs.Ytckpfgkgigicpaa.Ab
open Go Go.RowKit
set_option linter.unusedVariables false
set_option linter.unusedSimpArgs false
abbrev procV (p : Pr) (u : Value) : Value := .agg #[.int .i64 p.turns, u, .int .i64 p.setup, .int .i64 p.unit, .int .i64 p.hold, .int .i64 p.back]
def ProcA (m : Mem) (v : Value) (p : Pr) : Prop := ∃ u, v = procV p u ∧ IntsA m u p.w
theorem ProcA.ext {m : Mem} {v : Value} {p : Pr} (h : ProcA m v p) (new : Mem) : ProcA (m ++ new) v p := by
  obtain ⟨u, rfl, hu⟩ := h
  exact ⟨u, rfl, hu.ext new⟩
theorem ProcA.ro {m : Mem} {v : Value} {p : Pr} (h : ProcA m v p) : ProcA (roM m) v p := by
  obtain ⟨u, rfl, hu⟩ := h
  exact ⟨u, rfl, hu.ro⟩
def ProcO (p : Pr) (lo hi : Nat) (M : Mem) (v : Value) : Prop := ∃ u, v = procV p u ∧ IntsO p.w lo hi M u
theorem ProcO.in {p : Pr} {lo hi : Nat} {M : Mem} {v : Value} (h : ProcO p lo hi M v) : ProcA M v p := by
  obtain ⟨u, rfl, hu⟩ := h
  exact ⟨u, rfl, hu.in⟩
end Go.Proofs.Ytckpfgkgigicpaa.Ab
end
section
namespace Go.Proofs.Ytckpfgkgigicpaa.Ab
open Go Go.RowKit
set_option linter.unusedVariables false
set_option linter.unusedSimpArgs false
theorem appB {M : Mem} {id1 id2 : Nat} {e : TypeId} {sz byt n1 n2 fl : Nat} {cs1 cs2 : List Value} (h1 : OwnB M id1 e cs1) (h2 : OwnB M id2 e cs2) (l1 : cs1.length = n1 * sz) (l2 : cs2.length = n2 * sz) (ho : onesB cs2 = true)
    (hb : n1 + n2 ≤ 1048576) (hy : byt ≤ 1000000) :
    appP M e sz byt (.slice (some ⟨id1, 0, none⟩) n1 sz) (.slice (some ⟨id2, 0, none⟩) n2 fl) = some (.slice (some ⟨M.length, 0, none⟩) (n1 + n2) sz, M.set id1 deadB ++ [⟨.own, e, cs1 ++ cs2⟩]) := by
  have e1 : slR M sz (.slice (some ⟨id2, 0, none⟩) n2 fl) = some cs2 := by
    simp only [slR]; exact h2.rdl l2.symm
  have hm : (n1 + n2) * byt ≤ 1048576 * 1000000 := Nat.mul_le_mul hb hy
  unfold appP
  rw [e1]
  simp only [ho, if_true, appA, lenOfA]
  rw [show M[id1]? = some ⟨.own, e, cs1⟩ from h1]
  simp only [l1, true_and]
  rw [if_pos (by omega)]
theorem app_back {M : Mem} {id id2 n : Nat} {e : TypeId} {sz byt : Nat} {cs ys : List Value} (h : OwnB M id e cs) (h2 : id2 = M.length) (l1 : cs.length = n * sz) (l2 : ys.length = sz) (ho : onesB ys = true) (hb : n ≤ 1000000) (hy : byt ≤ 1000000) :
    appP (M ++ [⟨.own, e, ys⟩]) e sz byt (.slice (some ⟨id, 0, none⟩) n sz) (.slice (some ⟨id2, 0, none⟩) 1 sz) =
      some (.slice (some ⟨id2 + 1, 0, none⟩) (n + 1) sz, M.set id deadB ++ [⟨.own, e, ys⟩] ++ [⟨.own, e, cs ++ ys⟩]) := by
  subst h2
  rw [appB (h.ext _) (OwnB.here rfl) l1 (by rw [l2, Nat.one_mul]) ho (by omega) hy, List.set_append_left _ _ h.lt]
  simp
theorem app_front {M : Mem} {id id2 n fl : Nat} {e : TypeId} {sz byt : Nat} {cs ys : List Value} (h : OwnB M id e cs) (h2 : id2 = M.length) (l1 : cs.length = n * sz) (l2 : ys.length = sz) (ho : onesB cs = true) (hb : n ≤ 1000000) (hy : byt ≤ 1000000) :
    appP (M ++ [⟨.own, e, ys⟩]) e sz byt (.slice (some ⟨id2, 0, none⟩) 1 sz) (.slice (some ⟨id, 0, none⟩) n fl) =
      some (.slice (some ⟨id2 + 1, 0, none⟩) (1 + n) sz, M ++ [deadB] ++ [⟨.own, e, ys ++ cs⟩]) := by
  subst h2
  rw [appB (OwnB.here rfl) (h.ext _) (by rw [l2, Nat.one_mul]) l1 ho (by omega) hy]
  simp
theorem app_nil {M : Mem} {id2 : Nat} {e : TypeId} {sz byt : Nat} {ys : List Value} (h2 : id2 = M.length) (l2 : ys.length = sz) (ho : onesB ys = true) (hy : byt ≤ 1000000) :
    appP (M ++ [⟨.own, e, ys⟩]) e sz byt (.slice none 0 0) (.slice (some ⟨id2, 0, none⟩) 1 sz) =
      some (.slice (some ⟨id2 + 1, 0, none⟩) 1 sz, M ++ [⟨.own, e, ys⟩] ++ [⟨.own, e, ys⟩]) := by
  subst h2
  have e1 : slR (M ++ [⟨.own, e, ys⟩]) sz (.slice (some ⟨M.length, 0, none⟩) 1 sz) = some ys := by
    simp only [slR]; exact (OwnB.here rfl).rdl (by rw [l2, Nat.one_mul])
  unfold appP
  rw [e1]
  simp only [ho, if_true, appA]
  rw [if_pos (by simp only [lenOfA]; omega)]
  simp [lenOfA]
theorem bsl_sl' {m : Mem} {e : TypeId} {A : Option Addr} {n c : Nat} : bslA m e 1 1 [.slice none 0 0] [(0, 1, .slice A n c)] = some (.slice (some ⟨m.length, 0, none⟩) 1 1, m ++ [⟨.own, e, [.slice A n c]⟩]) := rfl
theorem bsl_pair {m : Mem} {e : TypeId} {a b : Int} : bslA m e 2 1 [.int .i64 0, .int .i64 0] [(0, 2, .agg #[.int .i64 a, .int .i64 b])] = some (.slice (some ⟨m.length, 0, none⟩) 1 2, m ++ [⟨.own, e, [.int .i64 a, .int .i64 b]⟩]) := rfl
theorem bsl_no {m : Mem} {e : TypeId} {sz : Nat} : bslA m e sz 0 [] [] = some (.slice (some ⟨m.length, 0, none⟩) 0 sz, m ++ [⟨.own, e, []⟩]) := rfl
theorem onesB_rows (T : List (List Int)) (R F : Nat → Nat) : onesB (rowsC T R F) = true := by
  unfold onesB
  rw [List.all_eq_true]
  intro x hx
  simp only [rowsC, List.mem_map] at hx
  obtain ⟨j, _, rfl⟩ := hx
  rfl
theorem app_num {M : Mem} {l : List Int} {x : Int} {id id2 n : Nat} (h : OwnR M id l) (hb : l.length ≤ 1048576) (h2 : id2 = M.length) (hn : n = l.length) :
    appP (M ++ [⟨.own, 3, [.int .i64 x]⟩]) 3 1 8 (.slice (some ⟨id, 0, none⟩) n 1) (.slice (some ⟨id2, 0, none⟩) 1 1) =
      some (.slice (some ⟨id2 + 1, 0, none⟩) (n + 1) 1, M.set id deadB ++ [⟨.own, 3, [.int .i64 x]⟩] ++ [⟨.own, 3, (l ++ [x]).map (Value.int .i64)⟩]) := by
  subst h2 hn
  exact app_gen h hb
def TabX (T : List (List Int)) (lo hi : Nat) (M : Mem) (id : Nat) (R F : Nat → Nat) : Prop :=
  lo ≤ id ∧ id < hi ∧ OwnB M id 24 (rowsC T R F) ∧ (∀ j, j < T.length → lo ≤ R j ∧ R j < hi ∧ OwnR M (R j) (T.getD j [])) ∧ ∀ i j, i < T.length → j < T.length → R i = R j → i = j
theorem TabX.at_ {T : List (List Int)} {lo hi : Nat} {M M' : Mem} {id : Nat} {R F : Nat → Nat} (h : TabX T lo hi M id R F) (hs : ∀ i, lo ≤ i → i < hi → M'[i]? = M[i]?) : TabX T lo hi M' id R F :=
  ⟨h.1, h.2.1, h.2.2.1.at_ (hs _ h.1 h.2.1), fun j hj => by obtain ⟨a, b, c⟩ := h.2.2.2.1 j hj; exact ⟨a, b, c.at_ (hs _ a b)⟩, h.2.2.2.2⟩
theorem TabX.wider {T : List (List Int)} {lo hi hi' : Nat} {M : Mem} {id : Nat} {R F : Nat → Nat} (h : TabX T lo hi M id R F) (hh : hi ≤ hi') : TabX T lo hi' M id R F :=
  ⟨h.1, by have := h.2.1; omega, h.2.2.1, fun j hj => by obtain ⟨a, b, c⟩ := h.2.2.2.1 j hj; exact ⟨a, by omega, c⟩, h.2.2.2.2⟩
theorem TabX.ext {T : List (List Int)} {lo hi : Nat} {M : Mem} {id : Nat} {R F : Nat → Nat} (h : TabX T lo hi M id R F) (hh : hi ≤ M.length) (new : Mem) : TabX T lo hi (M ++ new) id R F :=
  h.at_ fun i _ h2 => List.getElem?_append_left (by omega)
theorem same_gen {M : Mem} {id i : Nat} {b : Blk} {x y : Mem} (h : i < id) (hl : id < M.length) : (M.set id b ++ x ++ y)[i]? = M[i]? := by
  rw [List.append_assoc, List.getElem?_append_left (by rw [List.length_set]; omega), List.getElem?_set_ne (by omega)]
theorem TabX.row {T : List (List Int)} {lo hi : Nat} {M : Mem} {id : Nat} {R F : Nat → Nat} (h : TabX T lo hi M id R F) {j : Nat} (hj : j < T.length) (hb : (T.getD j []).length ≤ 1048576) :
    rdc M id j = some (.slice (some ⟨R j, 0, none⟩) (T.getD j []).length (F j)) ∧ IntsA M (.slice (some ⟨R j, 0, none⟩) (T.getD j []).length (F j)) (T.getD j []) :=
  ⟨by rw [h.2.2.1.rd]; exact rowsC_at hj, (h.2.2.2.1 j hj).2.2.ints (by omega) _⟩
theorem rowsC_cons {T : List (List Int)} {r : List Int} {R F : Nat → Nat} {rid f : Nat} :
    rowsC (r :: T) (fun j => if j = 0 then rid else R (j - 1)) (fun j => if j = 0 then f else F (j - 1)) = .slice (some ⟨rid, 0, none⟩) r.length f :: rowsC T R F := by
  unfold rowsC
  rw [List.length_cons, List.range_succ_eq_map, List.map_cons, List.map_map]
  congr 1
theorem TabX.cons {T : List (List Int)} {r : List Int} {lo hi hi' : Nat} {M M' : Mem} {id id' rid f : Nat} {R F : Nat → Nat} (h : TabX T lo hi M id R F) (hs : ∀ i, lo ≤ i → i < hi → M'[i]? = M[i]?)
    (h1 : lo ≤ id') (h2 : id' < hi') (h3 : OwnB M' id' 24 (.slice (some ⟨rid, 0, none⟩) r.length f :: rowsC T R F)) (h4 : hi ≤ rid) (h5 : rid < hi') (h6 : OwnR M' rid r) (h7 : hi ≤ hi') :
    TabX (r :: T) lo hi' M' id' (fun j => if j = 0 then rid else R (j - 1)) (fun j => if j = 0 then f else F (j - 1)) := by
  have hx := h.at_ hs
  refine ⟨h1, h2, by rw [rowsC_cons]; exact h3, fun j hj => ?_, fun i j hi hj he => ?_⟩
  · cases j with
    | zero => exact ⟨by have := h.1; have := h.2.1; simp; omega, by simpa using h5, by simpa using h6⟩
    | succ j =>
      obtain ⟨a, b, c⟩ := hx.2.2.2.1 j (by simpa using hj)
      exact ⟨by simpa using a, by simp; omega, by simpa using c⟩
  · cases i with
    | zero =>
      cases j with
      | zero => rfl
      | succ j =>
        have := (h.2.2.2.1 j (by simpa using hj)).2.1
        simp at he; omega
    | succ i =>
      cases j with
      | zero =>
        have := (h.2.2.2.1 i (by simpa using hi)).2.1
        simp at he; omega
      | succ j =>
        have := h.2.2.2.2 i j (by simpa using hi) (by simpa using hj) (by simpa using he)
        omega
theorem TabX.obj {T : List (List Int)} {lo hi : Nat} {M : Mem} {id fl : Nat} {R F : Nat → Nat} (h : TabX T lo hi M id R F) (h1 : T.length ≤ 1048576) (h2 : tsz T T.length ≤ 1048576) : TabO T lo hi M (.slice (some ⟨id, 0, none⟩) T.length fl) :=
  ⟨h1, h2, id, fl, R, F, rfl, h.1, h.2.1, h.2.2.1, h.2.2.2.1, h.2.2.2.2⟩
def Wide (O : Nat → Nat → Mem → Value → Prop) : Prop := ∀ lo hi lo' hi' M v, lo' ≤ lo → hi ≤ hi' → O lo hi M v → O lo' hi' M v
theorem IntsO.wide (l : List Int) : Wide (IntsO l) := fun lo hi lo' hi' M v h1 h2 h => by
  obtain ⟨a, id, fl, b, c, d, e⟩ := h
  exact ⟨a, id, fl, b, by omega, by omega, e⟩
theorem TabO.wide (T : List (List Int)) : Wide (TabO T) := fun lo hi lo' hi' M v h1 h2 h => by
  obtain ⟨a, b, id, fl, R, F, c, d, e, f, g, k⟩ := h
  exact ⟨a, b, id, fl, R, F, c, by omega, by omega, f, fun j hj => by obtain ⟨x, y, z⟩ := g j hj; exact ⟨by omega, by omega, z⟩, k⟩
theorem Ext.pass {m A new : Mem} {O : Nat → Nat → Mem → Value → Prop} {f : Value → Value} {w : Value} (hX : Ext m A) (hn : NoRo new) (hO : Wide O) (h : Lv A.length (A.length + new.length) (A ++ new) fun M => O A.length (A.length + new.length) M w) : newQ m (AnsO m O f) (f w) (A ++ new) :=
  ext_ansO (hX.app hn) fun M' hM => hO _ _ _ _ _ _ hX.len (by rw [List.length_append]; exact Nat.le_refl _) (h.2.2 M' fun i h1 h2 => hM i (by have := hX.len; omega) (by rw [List.length_append]; exact h2))
theorem ext_noTab {m A : Mem} {f : Value → Value} {id : Nat} (hX : Ext m A) (hid : id = A.length) : newQ m (AnsO m (TabO []) f) (f (.slice (some ⟨id, 0, none⟩) 0 1)) (A ++ [⟨.own, 24, []⟩]) := by
  subst hid
  exact ext_ansO (hX.one _ _) fun M' hM => ⟨by simp, by simp [tsz], _, 1, fun _ => 0, fun _ => 0, rfl, hX.len, by simp, (OwnB.here rfl).at_ (hM _ hX.len (by simp)), fun j hj => absurd hj (by simp), fun i j hi => absurd hi (by simp)⟩
theorem ext_noPairs {m A : Mem} {f : Value → Value} {e : TypeId} {id : Nat} (hX : Ext m A) (hid : id = A.length) : newQ m (AnsO m (PairsO e []) f) (f (.slice (some ⟨id, 0, none⟩) 0 2)) (A ++ [⟨.own, e, []⟩]) := by
  subst hid
  exact ext_ansO (hX.one _ _) fun M' hM => ⟨by simp, _, 2, rfl, hX.len, by simp, (OwnB.here rfl).at_ (hM _ hX.len (by simp))⟩
theorem ext_noInts {m A : Mem} {f : Value → Value} {id : Nat} (hX : Ext m A) (hid : id = A.length) : newQ m (AnsO m (IntsO []) f) (f (.slice (some ⟨id, 0, none⟩) 0 1)) (A ++ [⟨.own, 3, []⟩]) := by
  subst hid
  exact ext_ansO (hX.one _ _) fun M' hM => ⟨by simp, _, 1, rfl, hX.len, by simp, OwnR.at_ (OwnB.here rfl) (hM _ hX.len (by simp))⟩
theorem take_next {l : List Int} {i : Nat} (h : i < l.length) : l.take (i + 1) = l.take i ++ [l.getD i 0] := by
  rw [List.take_add_one, List.getD_eq_getElem?_getD, List.getElem?_eq_getElem h]; rfl
end Go.Proofs.Ytckpfgkgigicpaa.Ab
end
section
namespace Go.Proofs.Ytckpfgkgigicpaa.Ab
open Go Go.RowKit
set_option linter.unusedVariables false
set_option linter.unusedSimpArgs false
abbrev procC (p : Pr) (u : Value) : List Value := [.int .i64 p.turns, u, .int .i64 p.setup, .int .i64 p.unit, .int .i64 p.hold, .int .i64 p.back]
theorem Gr.at_ {M M' : Mem} {v : Value} {l : List Int} {r : Nat} (h : Gr M v l r) (hs : l ≠ [] → M'[r]? = M[r]?) : Gr M' v l r := by
  rcases h with h | ⟨h1, h2, h3⟩
  · exact .inl h
  · exact .inr ⟨h1, h2, h3.at_ (hs h2)⟩
theorem Gr.one' {M : Mem} {v : Value} {l : List Int} {r : Nat} (h : Gr M v l r) : onesB [v] = true := by
  rcases h with ⟨rfl, _⟩ | ⟨rfl, _⟩ <;> rfl
structure PB (M0 M : Mem) (cb id a bx r : Nat) (l : List Int) (p : Pr) (u : Value) : Prop where
  hid : id < M0.length
  hcb : cb < M0.length
  cw : Cw id M0 M
  cur : CurA M cb l id a
  box : OwnB M bx 26 (procC p u)
  ge : M0.length ≤ bx
  gr : Gr M u p.w r
  rge : p.w ≠ [] → M0.length ≤ r ∧ r ≠ bx
section
variable {M0 M M2 : Mem} {cb id a a2 bx r : Nat} {l : List Int} {p : Pr} {u : Value}
theorem PB.draw (h : PB M0 M cb id a bx r l p u) (w : Cw id M M2) (k : CurA M2 cb l id a2) : PB M0 M2 cb id a2 bx r l p u :=
  ⟨h.hid, h.hcb, Cw.trans h.hid h.cw w, k, h.box.at_ (w.old bx (by have := h.hid; have := h.ge; omega) h.box.lt), h.ge, by
    rcases h.gr with g | ⟨g1, g2, g3⟩
    · exact .inl g
    · exact .inr ⟨g1, g2, w.own g3 (by have := h.hid; have := (h.rge g2).1; omega)⟩, h.rge⟩
theorem PB.ext (h : PB M0 M cb id a bx r l p u) {new : Mem} (hn : NoRo new) : PB M0 (M ++ new) cb id a bx r l p u :=
  ⟨h.hid, h.hcb, h.cw.ext hn, h.cur.ext new, h.box.ext new, h.ge, by
    rcases h.gr with g | ⟨g1, g2, g3⟩
    · exact .inl g
    · exact .inr ⟨g1, g2, g3.ext new⟩, h.rge⟩
theorem PB.rd (h : PB M0 M cb id a bx r l p u) (k : Nat) : rdc M bx k = (procC p u)[k]? := h.box.rd k
theorem PB.st (h : PB M0 M cb id a bx r l p u) (j : Nat) (x : Int) (p' : Pr) (hj : j < 6) (hp : putL (procC p u) j [.int .i64 x] = procC p' u) (hw : p'.w = p.w) :
    stA M bx j [.int .i64 x] = some (M.set bx ⟨.own, 26, procC p' u⟩) ∧ PB M0 (M.set bx ⟨.own, 26, procC p' u⟩) cb id a bx r l p' u := by
  have hid := h.hid
  have hcb := h.hcb
  have hge := h.ge
  refine ⟨by rw [h.box.st (by simp; omega) rfl, hp], hid, hcb, h.cw.put hge (by simp), h.cur.put (by omega) (by omega) _, h.box.set_self _ _, hge, ?_, by rw [hw]; exact h.rge⟩
  rw [hw]
  exact h.gr.at_ fun e => List.getElem?_set_ne (Ne.symm (h.rge e).2)
theorem PB.app (h : PB M0 M cb id a bx r l p u) (hl : p.w.length ≤ 1000) (x : Int) : ∃ M1 M2,
    appP (M ++ [⟨.own, 3, [.int .i64 x]⟩]) 3 1 8 u (.slice (some ⟨M.length, 0, none⟩) 1 1) = some (.slice (some ⟨M.length + 1, 0, none⟩) (p.w.length + 1) 1, M1) ∧
    stA M1 bx 1 [.slice (some ⟨M.length + 1, 0, none⟩) (p.w.length + 1) 1] = some M2 ∧
    PB M0 M2 cb id a bx (M.length + 1) l { p with w := p.w ++ [x] } (.slice (some ⟨M.length + 1, 0, none⟩) (p.w.length + 1) 1) := by
  have hid := h.hid
  have hcb := h.hcb
  have hge := h.ge
  have hbl := h.box.lt
  obtain ⟨M1, h1, h2, h3, h4, h5⟩ := h.gr.app hl x
  have same : ∀ i, i < M.length → (i < M0.length ∨ i = bx) → M1[i]? = M[i]? := fun i hi ho => h4 i hi fun e => by have := h.rge e; omega
  have b1 : OwnB M1 bx 26 (procC p u) := h.box.at_ (same bx hbl (.inr rfl))
  have cw1 : Cw id M0 M1 := ⟨by have := h.cw.len; omega, fun i e hi => (same i (by have := h.cw.len; omega) (.inl hi)).trans (h.cw.old i e hi), fun i b hi hb => by
    by_cases e : i < M.length
    · by_cases e2 : i = r ∧ p.w ≠ []
      · exact h5 i b (.inl e2) hb
      · rw [h4 i e fun e3 e4 => e2 ⟨e4, e3⟩] at hb
        exact h.cw.new i b hi hb
    · exact h5 i b (.inr (by omega)) hb⟩
  have k1 : CurA M1 cb l id a := by
    obtain ⟨s, hb⟩ := h.cur.box
    exact ⟨(same cb (by have := h.cw.len; omega) (.inl hcb)).trans h.cur.code, h.cur.byte, h.cur.few, s, (same id (by have := h.cw.len; omega) (.inl hid)).trans hb⟩
  refine ⟨M1, _, h1, b1.st (by simp) rfl, hid, hcb, cw1.put hge (by simp), k1.put (by omega) (by omega) _, b1.set_self _ _, hge, .inr ⟨by simp, by simp, ?_⟩, fun _ => ⟨by have := h.cw.len; omega, by omega⟩⟩
  exact h3.at_ (List.getElem?_set_ne (by omega))
theorem PB.put (h : PB M0 M cb id a bx r l p u) (hl : p.w.length ≤ 1000) (h0 : 0 < p.w.length) (x : Int) : ∃ M2,
    iadA 1 u (.int .i64 0) = some (.pointer (some ⟨r, 0, none⟩)) ∧ stA M r 0 [.int .i64 x] = some M2 ∧ PB M0 M2 cb id a bx r l { p with w := p.w.set 0 x } u := by
  have hid := h.hid
  have hcb := h.hcb
  have hge := h.ge
  have hne : p.w ≠ [] := fun e => by rw [e] at h0; simp at h0
  obtain ⟨g1, g2⟩ := h.rge hne
  rcases h.gr with ⟨-, g⟩ | ⟨rfl, -, ho⟩
  · exact absurd g hne
  have i0 := (ho.ints (by omega) 1).at_ 0 h0
  refine ⟨M.set r (rowB (p.w.set 0 x)), by simpa [pAt] using i0, ho.st h0, hid, hcb, h.cw.put g1 (by simp), h.cur.put (by omega) (by omega) _, h.box.set_ne g2 _, hge, .inr ⟨by simp, ?_, ho.set_self⟩, fun _ => ⟨g1, g2⟩⟩
  · intro e
    have := congrArg List.length e
    simp at this
    exact hne this
end
def PL (lo : Nat) (M : Mem) (u : Value) (w : List Int) : Prop := ∀ M3 : Mem, (∀ i, lo ≤ i → i < M.length → M3[i]? = M[i]?) → IntsA M3 u w
theorem PL.cw {lo id : Nat} {M M' : Mem} {u : Value} {w : List Int} (h : PL lo M u w) (hid : id < lo) (c : Cw id M M') : PL lo M' u w := fun M3 h3 =>
  h M3 fun i h1 h2 => (h3 i h1 (Nat.lt_of_lt_of_le h2 c.len)).trans (c.old i (by omega) h2)
theorem PL.here {lo : Nat} {M : Mem} {u : Value} {w : List Int} (h : PL lo M u w) : IntsA M u w := h M fun _ _ _ => rfl
theorem PB.pl {M0 M : Mem} {cb id a bx r : Nat} {l : List Int} {p : Pr} {u : Value} (h : PB M0 M cb id a bx r l p u) (hl : p.w.length ≤ 1000) : PL M0.length M u p.w := fun M3 h3 => by
  refine Gr.ints (r := r) (h.gr.at_ fun e => ?_) hl
  have g := h.rge e
  rcases h.gr with ⟨-, e2⟩ | ⟨-, -, ho⟩
  · exact absurd e2 e
  · exact h3 r g.1 ho.lt
def QL (lo : Nat) (M : Mem) (v : Value) (L : List (Int × Int)) : Prop := ∀ M3 : Mem, (∀ i, lo ≤ i → i < M.length → M3[i]? = M[i]?) → PairsA M3 v L
theorem QL.here {lo : Nat} {M : Mem} {v : Value} {L : List (Int × Int)} (h : QL lo M v L) : PairsA M v L := h M fun _ _ _ => rfl
structure QB (M0 M : Mem) (cb id a r : Nat) (l : List Int) (L : List (Int × Int)) (cs : List Value) : Prop where
  hid : id < M0.length
  hcb : cb < M0.length
  cw : Cw id M0 M
  cur : CurA M cb l id a
  box : OwnB M M0.length 26 cs
  own : OwnB M r 49 (pairsC L)
  ge : M0.length < r
  few : L.length ≤ 1000
section
variable {M0 M M2 : Mem} {cb id a a2 r : Nat} {l : List Int} {L : List (Int × Int)} {cs : List Value}
theorem QB.draw (h : QB M0 M cb id a r l L cs) (w : Cw id M M2) (k : CurA M2 cb l id a2) : QB M0 M2 cb id a2 r l L cs :=
  ⟨h.hid, h.hcb, Cw.trans h.hid h.cw w, k, h.box.at_ (w.old _ (by have := h.hid; omega) h.box.lt), h.own.at_ (w.old _ (by have := h.hid; have := h.ge; omega) h.own.lt), h.ge, h.few⟩
theorem QB.rd (h : QB M0 M cb id a r l L cs) (k : Nat) : rdc M M0.length k = cs[k]? := h.box.rd k
theorem QB.app (h : QB M0 M cb id a r l L cs) (x y : Int) (hl : L.length ≤ 900) : ∃ M2,
    appP (M ++ [⟨.own, 49, [.int .i64 x, .int .i64 y]⟩]) 49 2 16 (.slice (some ⟨r, 0, none⟩) L.length 2) (.slice (some ⟨M.length, 0, none⟩) 1 2) = some (.slice (some ⟨M.length + 1, 0, none⟩) (L.length + 1) 2, M2) ∧
    QB M0 M2 cb id a (M.length + 1) l (L ++ [(x, y)]) cs := by
  have hid := h.hid
  have hcb := h.hcb
  have hge := h.ge
  have hrl := h.own.lt
  have hbl := h.box.lt
  refine ⟨_, app_back h.own rfl (by rw [pairsC_len]) rfl rfl (by omega) (by omega), hid, hcb, ((h.cw.put (by omega) (by simp [deadB])).ext (noRo_own noRo_nil)).ext (noRo_own noRo_nil), ((h.cur.put (by omega) (by omega) deadB).ext _).ext _, ((h.box.set_ne (by omega) _).ext _).ext _, ?_, by omega, by simp; omega⟩
  rw [pairsC_app]
  exact OwnB.here (by simp)
end
end Go.Proofs.Ytckpfgkgigicpaa.Ab
end
section
namespace Go.Proofs.Ytckpfgkgigicpaa.Ab
open Go Go.RowKit
set_option linter.unusedVariables false
set_option linter.unusedSimpArgs false
theorem row_small {w : List Int} {n : Nat} {most : Int} (hl : w.length ≤ n) (hn : n ≤ 1000) (hm : 0 ≤ most ∧ most ≤ 1000) (hw : Go.Proofs.Ytckpfgkgigicpaa.rowB w w.length most = true) (k : Nat) (hk : k ≤ w.length) : -4611686018427387904 ≤ sumTo w k ∧ sumTo w k ≤ 4611686018427387904 := by
  have h1 := sumTo_bound hm.1 (rowB_iff.1 hw).1 k
  have h2 : most * (k : Int) ≤ 1000 * 1000 := Int.mul_le_mul hm.2 (by omega) (by omega) (by decide)
  omega
theorem areW_rc (m : Mem) (v : Value) (w : List Int) (n : Nat) (most : Int) (h : IntsA m v w) (hn : n ≤ 1000) (hm : 0 ≤ most ∧ most ≤ 1000) :
    RC Try.prog 67 [v, .int .i64 n, .int .i64 most] m (AnsV (.bool (decide (w.length ≤ n) && Go.Proofs.Ytckpfgkgigicpaa.rowB w w.length most && decide (0 < sumTo w w.length)))) := by
  refine rc_of_run mixed ok_impl_areWeights (by simp) (go_start _ _ _ ?_)
  have hr := h.ro
  by_cases hl : w.length ≤ n
  · have hl' : (w.length : Int) ≤ n := by omega
    simp (config := {implicitDefEqProofs := false, maxDischargeDepth := 20}) (disch := first | omega | (simp only [lenE]; done) | (simp only [lenE]; omega) | rfl | (simp only [lenE, markR_len]; done) | (simp only [lenE, markR_len]; omega)) only [runE, mapE, listE, initT_5, initT_6, initT_7, initT_8, resV, oneV, binA, unA, reduceCtorEq, Nat.reduceEqDiff, Nat.reduceAdd, Nat.reduceLT, Nat.reduceLeDiff, Nat.reduceMul, Nat.reduceSub, ↓reduceIte, decide_true, decide_false, Bool.true_eq_false, Bool.false_eq_true, Bool.not_true, Bool.not_false, if_true, if_false, and_true, true_and, memE, celE, w64, Nat.zero_add, Nat.add_zero, Nat.mul_one, putL, and_self, ldn, c_impl_areWeights, r_impl_areWeights, hr.len, hl']
    refine callH_rc (isRow_rc _ v w w.length most hr) ?_
    rintro r new ⟨rfl, nr⟩
    cases b2 : Go.Proofs.Ytckpfgkgigicpaa.rowB w w.length most with
    | false =>
      simp (config := {implicitDefEqProofs := false, maxDischargeDepth := 20}) (disch := first | omega | (simp only [lenE]; done) | (simp only [lenE]; omega) | rfl | (simp only [lenE, markR_len]; done) | (simp only [lenE, markR_len]; omega)) only [runE, mapE, listE, initT_5, initT_6, initT_7, initT_8, resV, oneV, binA, unA, reduceCtorEq, Nat.reduceEqDiff, Nat.reduceAdd, Nat.reduceLT, Nat.reduceLeDiff, Nat.reduceMul, Nat.reduceSub, ↓reduceIte, decide_true, decide_false, Bool.true_eq_false, Bool.false_eq_true, Bool.not_true, Bool.not_false, if_true, if_false, and_true, true_and, memE, celE, w64, Nat.zero_add, Nat.add_zero, Nat.mul_one, putL, and_self, ldn]
      try simp only [List.append_assoc, List.cons_append, List.nil_append, List.append_nil]
      exact ⟨_, rfl, by (repeat (first | exact noRo_nil | assumption | apply noRo_own | apply noRo_dead | apply noRo_app)), by simp, by (repeat (first | exact noRo_nil | assumption | apply noRo_own | apply noRo_dead | apply noRo_app))⟩
    | true =>
    simp (config := {implicitDefEqProofs := false, maxDischargeDepth := 20}) (disch := first | omega | (simp only [lenE]; done) | (simp only [lenE]; omega) | rfl | (simp only [lenE, markR_len]; done) | (simp only [lenE, markR_len]; omega)) only [runE, mapE, listE, initT_5, initT_6, initT_7, initT_8, resV, oneV, binA, unA, reduceCtorEq, Nat.reduceEqDiff, Nat.reduceAdd, Nat.reduceLT, Nat.reduceLeDiff, Nat.reduceMul, Nat.reduceSub, ↓reduceIte, decide_true, decide_false, Bool.true_eq_false, Bool.false_eq_true, Bool.not_true, Bool.not_false, if_true, if_false, and_true, true_and, memE, celE, w64, Nat.zero_add, Nat.add_zero, Nat.mul_one, putL, and_self, ldn]
    refine callH_rc (sumOf_rc _ v w (hr.ext _) (row_small hl hn hm b2)) ?_
    rintro r new ⟨rfl, rfl⟩
    simp (config := {implicitDefEqProofs := false, maxDischargeDepth := 20}) (disch := first | omega | (simp only [lenE]; done) | (simp only [lenE]; omega) | rfl | (simp only [lenE, markR_len]; done) | (simp only [lenE, markR_len]; omega)) only [runE, mapE, listE, initT_5, initT_6, initT_7, initT_8, resV, oneV, binA, unA, reduceCtorEq, Nat.reduceEqDiff, Nat.reduceAdd, Nat.reduceLT, Nat.reduceLeDiff, Nat.reduceMul, Nat.reduceSub, ↓reduceIte, decide_true, decide_false, Bool.true_eq_false, Bool.false_eq_true, Bool.not_true, Bool.not_false, if_true, if_false, and_true, true_and, memE, celE, w64, Nat.zero_add, Nat.add_zero, Nat.mul_one, putL, and_self, ldn, gt_iff_lt]
    try simp only [List.append_assoc, List.cons_append, List.nil_append, List.append_nil]
    exact ⟨_, rfl, by (repeat (first | exact noRo_nil | assumption | apply noRo_own | apply noRo_dead | apply noRo_app)), by simp [hl], by (repeat (first | exact noRo_nil | assumption | apply noRo_own | apply noRo_dead | apply noRo_app))⟩
  · have hl' : ¬ ((w.length : Int) ≤ n) := by omega
    simp (config := {implicitDefEqProofs := false, maxDischargeDepth := 20}) (disch := first | omega | (simp only [lenE]; done) | (simp only [lenE]; omega) | rfl | (simp only [lenE, markR_len]; done) | (simp only [lenE, markR_len]; omega)) only [runE, mapE, listE, initT_5, initT_6, initT_7, initT_8, resV, oneV, binA, unA, reduceCtorEq, Nat.reduceEqDiff, Nat.reduceAdd, Nat.reduceLT, Nat.reduceLeDiff, Nat.reduceMul, Nat.reduceSub, ↓reduceIte, decide_true, decide_false, Bool.true_eq_false, Bool.false_eq_true, Bool.not_true, Bool.not_false, if_true, if_false, and_true, true_and, memE, celE, w64, Nat.zero_add, Nat.add_zero, Nat.mul_one, putL, and_self, ldn, c_impl_areWeights, r_impl_areWeights, hr.len, hl']
    exact newQ_nil ⟨by simp [hl], noRo_nil⟩
end Go.Proofs.Ytckpfgkgigicpaa.Ab
end
section
namespace Go.Proofs.Ytckpfgkgigicpaa.Ab
open Go Go.RowKit
set_option linter.unusedVariables false
set_option linter.unusedSimpArgs false
theorem w_small {w : List Int} (hl : w.length ≤ 5) (hw : Go.Proofs.Ytckpfgkgigicpaa.rowB w w.length 4 = true) (k : Nat) (hk : k ≤ w.length) : -4611686018427387904 ≤ sumTo w k ∧ sumTo w k ≤ 4611686018427387904 := by
  have := sumTo_bound (by decide) (rowB_iff.1 hw).1 k
  omega
theorem wB_len {w : List Int} (h : (decide ((1 : Int) ≤ (w.length : Int)) && decide ((w.length : Int) ≤ 5)) = false) : Pr.wB w = false := by
  unfold Pr.wB
  by_cases h5 : w.length ≤ 5
  · have h0 : w.length = 0 := by simp at h; omega
    simp [h0, sumTo_zero]
  · simp [h5]
theorem l6Good_rc (m : Mem) (v : Value) (p : Pr) (h : ProcA m v p) : RC Try.prog 44 [v] m (AnsV (.bool p.good)) := by
  refine rc_of_run mixed ok_spec_l6Good (by simp) (go_start _ _ _ ?_)
  obtain ⟨u, rfl, hu⟩ := h.ro
  unfold Pr.good
  simp (config := {implicitDefEqProofs := false, maxDischargeDepth := 20}) (disch := first | omega | (simp only [lenE]; done) | (simp only [lenE]; omega) | rfl | (simp only [lenE, markR_len]; done) | (simp only [lenE, markR_len]; omega)) only [runE, mapE, listE, initT_5, initT_6, initT_7, initT_8, resV, oneV, binA, unA, reduceCtorEq, Nat.reduceEqDiff, Nat.reduceAdd, Nat.reduceLT, Nat.reduceLeDiff, Nat.reduceMul, Nat.reduceSub, ↓reduceIte, decide_true, decide_false, Bool.true_eq_false, Bool.false_eq_true, Bool.not_true, Bool.not_false, if_true, if_false, and_true, true_and, memE, celE, w64, Nat.zero_add, Nat.add_zero, Nat.mul_one, putL, and_self, ldn, c_spec_l6Good, r_spec_l6Good]
  refine callH_rc (l1In_rc _ _ _ _) ?_
  rintro r new ⟨rfl, rfl⟩
  rw [show (decide (0 ≤ p.turns) && decide (p.turns ≤ 5)) = inZ 5 p.turns from rfl]
  cases b0 : inZ 5 p.turns with
  | false =>
    simp (config := {implicitDefEqProofs := false, maxDischargeDepth := 20}) (disch := first | omega | (simp only [lenE]; done) | (simp only [lenE]; omega) | rfl | (simp only [lenE, markR_len]; done) | (simp only [lenE, markR_len]; omega)) only [runE, mapE, listE, initT_5, initT_6, initT_7, initT_8, resV, oneV, binA, unA, reduceCtorEq, Nat.reduceEqDiff, Nat.reduceAdd, Nat.reduceLT, Nat.reduceLeDiff, Nat.reduceMul, Nat.reduceSub, ↓reduceIte, decide_true, decide_false, Bool.true_eq_false, Bool.false_eq_true, Bool.not_true, Bool.not_false, if_true, if_false, and_true, true_and, memE, celE, w64, Nat.zero_add, Nat.add_zero, Nat.mul_one, putL, and_self, ldn]
    try simp only [List.append_assoc, List.cons_append, List.nil_append, List.append_nil]
    exact ⟨_, rfl, by (repeat (first | exact noRo_nil | assumption | apply noRo_own | apply noRo_dead | apply noRo_app)), by simp, by (repeat (first | exact noRo_nil | assumption | apply noRo_own | apply noRo_dead | apply noRo_app))⟩
  | true =>
  simp (config := {implicitDefEqProofs := false, maxDischargeDepth := 20}) (disch := first | omega | (simp only [lenE]; done) | (simp only [lenE]; omega) | rfl | (simp only [lenE, markR_len]; done) | (simp only [lenE, markR_len]; omega)) only [runE, mapE, listE, initT_5, initT_6, initT_7, initT_8, resV, oneV, binA, unA, reduceCtorEq, Nat.reduceEqDiff, Nat.reduceAdd, Nat.reduceLT, Nat.reduceLeDiff, Nat.reduceMul, Nat.reduceSub, ↓reduceIte, decide_true, decide_false, Bool.true_eq_false, Bool.false_eq_true, Bool.not_true, Bool.not_false, if_true, if_false, and_true, true_and, memE, celE, w64, Nat.zero_add, Nat.add_zero, Nat.mul_one, putL, and_self, ldn, hu.len]
  refine callH_rc (l1In_rc _ _ _ _) ?_
  rintro r new ⟨rfl, rfl⟩
  cases b1 : (decide ((1 : Int) ≤ (p.w.length : Int)) && decide ((p.w.length : Int) ≤ 5)) with
  | false =>
    simp (config := {implicitDefEqProofs := false, maxDischargeDepth := 20}) (disch := first | omega | (simp only [lenE]; done) | (simp only [lenE]; omega) | rfl | (simp only [lenE, markR_len]; done) | (simp only [lenE, markR_len]; omega)) only [runE, mapE, listE, initT_5, initT_6, initT_7, initT_8, resV, oneV, binA, unA, reduceCtorEq, Nat.reduceEqDiff, Nat.reduceAdd, Nat.reduceLT, Nat.reduceLeDiff, Nat.reduceMul, Nat.reduceSub, ↓reduceIte, decide_true, decide_false, Bool.true_eq_false, Bool.false_eq_true, Bool.not_true, Bool.not_false, if_true, if_false, and_true, true_and, memE, celE, w64, Nat.zero_add, Nat.add_zero, Nat.mul_one, putL, and_self, ldn]
    try simp only [List.append_assoc, List.cons_append, List.nil_append, List.append_nil]
    exact ⟨_, rfl, by (repeat (first | exact noRo_nil | assumption | apply noRo_own | apply noRo_dead | apply noRo_app)), by rw [wB_len b1]; simp, by (repeat (first | exact noRo_nil | assumption | apply noRo_own | apply noRo_dead | apply noRo_app))⟩
  | true =>
  have hl : p.w.length ≤ 5 := by simp at b1; omega
  simp (config := {implicitDefEqProofs := false, maxDischargeDepth := 20}) (disch := first | omega | (simp only [lenE]; done) | (simp only [lenE]; omega) | rfl | (simp only [lenE, markR_len]; done) | (simp only [lenE, markR_len]; omega)) only [runE, mapE, listE, initT_5, initT_6, initT_7, initT_8, resV, oneV, binA, unA, reduceCtorEq, Nat.reduceEqDiff, Nat.reduceAdd, Nat.reduceLT, Nat.reduceLeDiff, Nat.reduceMul, Nat.reduceSub, ↓reduceIte, decide_true, decide_false, Bool.true_eq_false, Bool.false_eq_true, Bool.not_true, Bool.not_false, if_true, if_false, and_true, true_and, memE, celE, w64, Nat.zero_add, Nat.add_zero, Nat.mul_one, putL, and_self, ldn, hu.len]
  refine callH_rc (l2Row_rc _ u p.w p.w.length 4 (hu.ext _)) ?_
  rintro r new ⟨rfl, rfl⟩
  cases b2 : Go.Proofs.Ytckpfgkgigicpaa.rowB p.w p.w.length 4 with
  | false =>
    simp (config := {implicitDefEqProofs := false, maxDischargeDepth := 20}) (disch := first | omega | (simp only [lenE]; done) | (simp only [lenE]; omega) | rfl | (simp only [lenE, markR_len]; done) | (simp only [lenE, markR_len]; omega)) only [runE, mapE, listE, initT_5, initT_6, initT_7, initT_8, resV, oneV, binA, unA, reduceCtorEq, Nat.reduceEqDiff, Nat.reduceAdd, Nat.reduceLT, Nat.reduceLeDiff, Nat.reduceMul, Nat.reduceSub, ↓reduceIte, decide_true, decide_false, Bool.true_eq_false, Bool.false_eq_true, Bool.not_true, Bool.not_false, if_true, if_false, and_true, true_and, memE, celE, w64, Nat.zero_add, Nat.add_zero, Nat.mul_one, putL, and_self, ldn]
    try simp only [List.append_assoc, List.cons_append, List.nil_append, List.append_nil]
    exact ⟨_, rfl, by (repeat (first | exact noRo_nil | assumption | apply noRo_own | apply noRo_dead | apply noRo_app)), by simp [Pr.wB, b2], by (repeat (first | exact noRo_nil | assumption | apply noRo_own | apply noRo_dead | apply noRo_app))⟩
  | true =>
  simp (config := {implicitDefEqProofs := false, maxDischargeDepth := 20}) (disch := first | omega | (simp only [lenE]; done) | (simp only [lenE]; omega) | rfl | (simp only [lenE, markR_len]; done) | (simp only [lenE, markR_len]; omega)) only [runE, mapE, listE, initT_5, initT_6, initT_7, initT_8, resV, oneV, binA, unA, reduceCtorEq, Nat.reduceEqDiff, Nat.reduceAdd, Nat.reduceLT, Nat.reduceLeDiff, Nat.reduceMul, Nat.reduceSub, ↓reduceIte, decide_true, decide_false, Bool.true_eq_false, Bool.false_eq_true, Bool.not_true, Bool.not_false, if_true, if_false, and_true, true_and, memE, celE, w64, Nat.zero_add, Nat.add_zero, Nat.mul_one, putL, and_self, ldn]
  refine callH_rc (l2Sum_rc _ u p.w (hu.ext _) (w_small hl b2)) ?_
  rintro r new ⟨rfl, rfl⟩
  by_cases hs : 0 < sumTo p.w p.w.length
  · have bw : Pr.wB p.w = true := by simp [Pr.wB, b2, hl, hs]
    rw [bw]
    simp (config := {implicitDefEqProofs := false, maxDischargeDepth := 20}) (disch := first | omega | (simp only [lenE]; done) | (simp only [lenE]; omega) | rfl | (simp only [lenE, markR_len]; done) | (simp only [lenE, markR_len]; omega)) only [runE, mapE, listE, initT_5, initT_6, initT_7, initT_8, resV, oneV, binA, unA, reduceCtorEq, Nat.reduceEqDiff, Nat.reduceAdd, Nat.reduceLT, Nat.reduceLeDiff, Nat.reduceMul, Nat.reduceSub, ↓reduceIte, decide_true, decide_false, Bool.true_eq_false, Bool.false_eq_true, Bool.not_true, Bool.not_false, if_true, if_false, and_true, true_and, memE, celE, w64, Nat.zero_add, Nat.add_zero, Nat.mul_one, putL, and_self, ldn, hs, gt_iff_lt]
    refine callH_rc (l1In_rc _ _ _ _) ?_
    rintro r new ⟨rfl, rfl⟩
    rw [show (decide (0 ≤ p.setup) && decide (p.setup ≤ 99)) = inZ 99 p.setup from rfl]
    cases b3 : inZ 99 p.setup with
    | false =>
      simp (config := {implicitDefEqProofs := false, maxDischargeDepth := 20}) (disch := first | omega | (simp only [lenE]; done) | (simp only [lenE]; omega) | rfl | (simp only [lenE, markR_len]; done) | (simp only [lenE, markR_len]; omega)) only [runE, mapE, listE, initT_5, initT_6, initT_7, initT_8, resV, oneV, binA, unA, reduceCtorEq, Nat.reduceEqDiff, Nat.reduceAdd, Nat.reduceLT, Nat.reduceLeDiff, Nat.reduceMul, Nat.reduceSub, ↓reduceIte, decide_true, decide_false, Bool.true_eq_false, Bool.false_eq_true, Bool.not_true, Bool.not_false, if_true, if_false, and_true, true_and, memE, celE, w64, Nat.zero_add, Nat.add_zero, Nat.mul_one, putL, and_self, ldn]
      try simp only [List.append_assoc, List.cons_append, List.nil_append, List.append_nil]
      exact ⟨_, rfl, by (repeat (first | exact noRo_nil | assumption | apply noRo_own | apply noRo_dead | apply noRo_app)), by simp, by (repeat (first | exact noRo_nil | assumption | apply noRo_own | apply noRo_dead | apply noRo_app))⟩
    | true =>
    simp (config := {implicitDefEqProofs := false, maxDischargeDepth := 20}) (disch := first | omega | (simp only [lenE]; done) | (simp only [lenE]; omega) | rfl | (simp only [lenE, markR_len]; done) | (simp only [lenE, markR_len]; omega)) only [runE, mapE, listE, initT_5, initT_6, initT_7, initT_8, resV, oneV, binA, unA, reduceCtorEq, Nat.reduceEqDiff, Nat.reduceAdd, Nat.reduceLT, Nat.reduceLeDiff, Nat.reduceMul, Nat.reduceSub, ↓reduceIte, decide_true, decide_false, Bool.true_eq_false, Bool.false_eq_true, Bool.not_true, Bool.not_false, if_true, if_false, and_true, true_and, memE, celE, w64, Nat.zero_add, Nat.add_zero, Nat.mul_one, putL, and_self, ldn]
    refine callH_rc (l1In_rc _ _ _ _) ?_
    rintro r new ⟨rfl, rfl⟩
    rw [show (decide (0 ≤ p.unit) && decide (p.unit ≤ 9)) = inZ 9 p.unit from rfl]
    cases b4 : inZ 9 p.unit with
    | false =>
      simp (config := {implicitDefEqProofs := false, maxDischargeDepth := 20}) (disch := first | omega | (simp only [lenE]; done) | (simp only [lenE]; omega) | rfl | (simp only [lenE, markR_len]; done) | (simp only [lenE, markR_len]; omega)) only [runE, mapE, listE, initT_5, initT_6, initT_7, initT_8, resV, oneV, binA, unA, reduceCtorEq, Nat.reduceEqDiff, Nat.reduceAdd, Nat.reduceLT, Nat.reduceLeDiff, Nat.reduceMul, Nat.reduceSub, ↓reduceIte, decide_true, decide_false, Bool.true_eq_false, Bool.false_eq_true, Bool.not_true, Bool.not_false, if_true, if_false, and_true, true_and, memE, celE, w64, Nat.zero_add, Nat.add_zero, Nat.mul_one, putL, and_self, ldn]
      try simp only [List.append_assoc, List.cons_append, List.nil_append, List.append_nil]
      exact ⟨_, rfl, by (repeat (first | exact noRo_nil | assumption | apply noRo_own | apply noRo_dead | apply noRo_app)), by simp, by (repeat (first | exact noRo_nil | assumption | apply noRo_own | apply noRo_dead | apply noRo_app))⟩
    | true =>
    simp (config := {implicitDefEqProofs := false, maxDischargeDepth := 20}) (disch := first | omega | (simp only [lenE]; done) | (simp only [lenE]; omega) | rfl | (simp only [lenE, markR_len]; done) | (simp only [lenE, markR_len]; omega)) only [runE, mapE, listE, initT_5, initT_6, initT_7, initT_8, resV, oneV, binA, unA, reduceCtorEq, Nat.reduceEqDiff, Nat.reduceAdd, Nat.reduceLT, Nat.reduceLeDiff, Nat.reduceMul, Nat.reduceSub, ↓reduceIte, decide_true, decide_false, Bool.true_eq_false, Bool.false_eq_true, Bool.not_true, Bool.not_false, if_true, if_false, and_true, true_and, memE, celE, w64, Nat.zero_add, Nat.add_zero, Nat.mul_one, putL, and_self, ldn]
    refine callH_rc (l1In_rc _ _ _ _) ?_
    rintro r new ⟨rfl, rfl⟩
    rw [show (decide (0 ≤ p.hold) && decide (p.hold ≤ 9)) = inZ 9 p.hold from rfl]
    cases b5 : inZ 9 p.hold with
    | false =>
      simp (config := {implicitDefEqProofs := false, maxDischargeDepth := 20}) (disch := first | omega | (simp only [lenE]; done) | (simp only [lenE]; omega) | rfl | (simp only [lenE, markR_len]; done) | (simp only [lenE, markR_len]; omega)) only [runE, mapE, listE, initT_5, initT_6, initT_7, initT_8, resV, oneV, binA, unA, reduceCtorEq, Nat.reduceEqDiff, Nat.reduceAdd, Nat.reduceLT, Nat.reduceLeDiff, Nat.reduceMul, Nat.reduceSub, ↓reduceIte, decide_true, decide_false, Bool.true_eq_false, Bool.false_eq_true, Bool.not_true, Bool.not_false, if_true, if_false, and_true, true_and, memE, celE, w64, Nat.zero_add, Nat.add_zero, Nat.mul_one, putL, and_self, ldn]
      try simp only [List.append_assoc, List.cons_append, List.nil_append, List.append_nil]
      exact ⟨_, rfl, by (repeat (first | exact noRo_nil | assumption | apply noRo_own | apply noRo_dead | apply noRo_app)), by simp, by (repeat (first | exact noRo_nil | assumption | apply noRo_own | apply noRo_dead | apply noRo_app))⟩
    | true =>
    simp (config := {implicitDefEqProofs := false, maxDischargeDepth := 20}) (disch := first | omega | (simp only [lenE]; done) | (simp only [lenE]; omega) | rfl | (simp only [lenE, markR_len]; done) | (simp only [lenE, markR_len]; omega)) only [runE, mapE, listE, initT_5, initT_6, initT_7, initT_8, resV, oneV, binA, unA, reduceCtorEq, Nat.reduceEqDiff, Nat.reduceAdd, Nat.reduceLT, Nat.reduceLeDiff, Nat.reduceMul, Nat.reduceSub, ↓reduceIte, decide_true, decide_false, Bool.true_eq_false, Bool.false_eq_true, Bool.not_true, Bool.not_false, if_true, if_false, and_true, true_and, memE, celE, w64, Nat.zero_add, Nat.add_zero, Nat.mul_one, putL, and_self, ldn]
    refine callH_rc (l1In_rc _ _ _ _) ?_
    rintro r new ⟨rfl, rfl⟩
    rw [show (decide (0 ≤ p.back) && decide (p.back ≤ 9)) = inZ 9 p.back from rfl]
    simp (config := {implicitDefEqProofs := false, maxDischargeDepth := 20}) (disch := first | omega | (simp only [lenE]; done) | (simp only [lenE]; omega) | rfl | (simp only [lenE, markR_len]; done) | (simp only [lenE, markR_len]; omega)) only [runE, mapE, listE, initT_5, initT_6, initT_7, initT_8, resV, oneV, binA, unA, reduceCtorEq, Nat.reduceEqDiff, Nat.reduceAdd, Nat.reduceLT, Nat.reduceLeDiff, Nat.reduceMul, Nat.reduceSub, ↓reduceIte, decide_true, decide_false, Bool.true_eq_false, Bool.false_eq_true, Bool.not_true, Bool.not_false, if_true, if_false, and_true, true_and, memE, celE, w64, Nat.zero_add, Nat.add_zero, Nat.mul_one, putL, and_self, ldn]
    try simp only [List.append_assoc, List.cons_append, List.nil_append, List.append_nil]
    exact ⟨_, rfl, by (repeat (first | exact noRo_nil | assumption | apply noRo_own | apply noRo_dead | apply noRo_app)), by simp, by (repeat (first | exact noRo_nil | assumption | apply noRo_own | apply noRo_dead | apply noRo_app))⟩
  · simp (config := {implicitDefEqProofs := false, maxDischargeDepth := 20}) (disch := first | omega | (simp only [lenE]; done) | (simp only [lenE]; omega) | rfl | (simp only [lenE, markR_len]; done) | (simp only [lenE, markR_len]; omega)) only [runE, mapE, listE, initT_5, initT_6, initT_7, initT_8, resV, oneV, binA, unA, reduceCtorEq, Nat.reduceEqDiff, Nat.reduceAdd, Nat.reduceLT, Nat.reduceLeDiff, Nat.reduceMul, Nat.reduceSub, ↓reduceIte, decide_true, decide_false, Bool.true_eq_false, Bool.false_eq_true, Bool.not_true, Bool.not_false, if_true, if_false, and_true, true_and, memE, celE, w64, Nat.zero_add, Nat.add_zero, Nat.mul_one, putL, and_self, ldn, hs, gt_iff_lt]
    try simp only [List.append_assoc, List.cons_append, List.nil_append, List.append_nil]
    exact ⟨_, rfl, by (repeat (first | exact noRo_nil | assumption | apply noRo_own | apply noRo_dead | apply noRo_app)), by simp [Pr.wB, hs], by (repeat (first | exact noRo_nil | assumption | apply noRo_own | apply noRo_dead | apply noRo_app))⟩
theorem implIsProcess_rc (m : Mem) (v : Value) (p : Pr) (h : ProcA m v p) : RC Try.prog 41 [v] m (AnsV (.bool p.good)) := by
  refine rc_of_run mixed ok_impl_IsProcess (by simp) (go_start _ _ _ ?_)
  obtain ⟨u, rfl, hu⟩ := h.ro
  unfold Pr.good
  simp (config := {implicitDefEqProofs := false, maxDischargeDepth := 20}) (disch := first | omega | (simp only [lenE]; done) | (simp only [lenE]; omega) | rfl | (simp only [lenE, markR_len]; done) | (simp only [lenE, markR_len]; omega)) only [runE, mapE, listE, initT_5, initT_6, initT_7, initT_8, resV, oneV, binA, unA, reduceCtorEq, Nat.reduceEqDiff, Nat.reduceAdd, Nat.reduceLT, Nat.reduceLeDiff, Nat.reduceMul, Nat.reduceSub, ↓reduceIte, decide_true, decide_false, Bool.true_eq_false, Bool.false_eq_true, Bool.not_true, Bool.not_false, if_true, if_false, and_true, true_and, memE, celE, w64, Nat.zero_add, Nat.add_zero, Nat.mul_one, putL, and_self, ldn, c_impl_IsProcess, r_impl_IsProcess]
  refine callH_rc (isWithin_rc _ _ _) ?_
  rintro r new ⟨rfl, rfl⟩
  rw [show inB 5 p.turns = inZ 5 p.turns from rfl]
  cases b0 : inZ 5 p.turns with
  | false =>
    simp (config := {implicitDefEqProofs := false, maxDischargeDepth := 20}) (disch := first | omega | (simp only [lenE]; done) | (simp only [lenE]; omega) | rfl | (simp only [lenE, markR_len]; done) | (simp only [lenE, markR_len]; omega)) only [runE, mapE, listE, initT_5, initT_6, initT_7, initT_8, resV, oneV, binA, unA, reduceCtorEq, Nat.reduceEqDiff, Nat.reduceAdd, Nat.reduceLT, Nat.reduceLeDiff, Nat.reduceMul, Nat.reduceSub, ↓reduceIte, decide_true, decide_false, Bool.true_eq_false, Bool.false_eq_true, Bool.not_true, Bool.not_false, if_true, if_false, and_true, true_and, memE, celE, w64, Nat.zero_add, Nat.add_zero, Nat.mul_one, putL, and_self, ldn]
    try simp only [List.append_assoc, List.cons_append, List.nil_append, List.append_nil]
    exact ⟨_, rfl, by (repeat (first | exact noRo_nil | assumption | apply noRo_own | apply noRo_dead | apply noRo_app)), by simp, by (repeat (first | exact noRo_nil | assumption | apply noRo_own | apply noRo_dead | apply noRo_app))⟩
  | true =>
  simp (config := {implicitDefEqProofs := false, maxDischargeDepth := 20}) (disch := first | omega | (simp only [lenE]; done) | (simp only [lenE]; omega) | rfl | (simp only [lenE, markR_len]; done) | (simp only [lenE, markR_len]; omega)) only [runE, mapE, listE, initT_5, initT_6, initT_7, initT_8, resV, oneV, binA, unA, reduceCtorEq, Nat.reduceEqDiff, Nat.reduceAdd, Nat.reduceLT, Nat.reduceLeDiff, Nat.reduceMul, Nat.reduceSub, ↓reduceIte, decide_true, decide_false, Bool.true_eq_false, Bool.false_eq_true, Bool.not_true, Bool.not_false, if_true, if_false, and_true, true_and, memE, celE, w64, Nat.zero_add, Nat.add_zero, Nat.mul_one, putL, and_self, ldn]
  refine callH_rc (areW_rc _ u p.w 5 4 (hu.ext _) (by decide) (by decide)) ?_
  rintro r new ⟨rfl, nr⟩
  rw [show (decide (p.w.length ≤ 5) && Go.Proofs.Ytckpfgkgigicpaa.rowB p.w p.w.length 4 && decide (0 < sumTo p.w p.w.length)) = Pr.wB p.w from rfl]
  cases b1 : Pr.wB p.w with
  | false =>
    simp (config := {implicitDefEqProofs := false, maxDischargeDepth := 20}) (disch := first | omega | (simp only [lenE]; done) | (simp only [lenE]; omega) | rfl | (simp only [lenE, markR_len]; done) | (simp only [lenE, markR_len]; omega)) only [runE, mapE, listE, initT_5, initT_6, initT_7, initT_8, resV, oneV, binA, unA, reduceCtorEq, Nat.reduceEqDiff, Nat.reduceAdd, Nat.reduceLT, Nat.reduceLeDiff, Nat.reduceMul, Nat.reduceSub, ↓reduceIte, decide_true, decide_false, Bool.true_eq_false, Bool.false_eq_true, Bool.not_true, Bool.not_false, if_true, if_false, and_true, true_and, memE, celE, w64, Nat.zero_add, Nat.add_zero, Nat.mul_one, putL, and_self, ldn]
    try simp only [List.append_assoc, List.cons_append, List.nil_append, List.append_nil]
    exact ⟨_, rfl, by (repeat (first | exact noRo_nil | assumption | apply noRo_own | apply noRo_dead | apply noRo_app)), by simp, by (repeat (first | exact noRo_nil | assumption | apply noRo_own | apply noRo_dead | apply noRo_app))⟩
  | true =>
  simp (config := {implicitDefEqProofs := false, maxDischargeDepth := 20}) (disch := first | omega | (simp only [lenE]; done) | (simp only [lenE]; omega) | rfl | (simp only [lenE, markR_len]; done) | (simp only [lenE, markR_len]; omega)) only [runE, mapE, listE, initT_5, initT_6, initT_7, initT_8, resV, oneV, binA, unA, reduceCtorEq, Nat.reduceEqDiff, Nat.reduceAdd, Nat.reduceLT, Nat.reduceLeDiff, Nat.reduceMul, Nat.reduceSub, ↓reduceIte, decide_true, decide_false, Bool.true_eq_false, Bool.false_eq_true, Bool.not_true, Bool.not_false, if_true, if_false, and_true, true_and, memE, celE, w64, Nat.zero_add, Nat.add_zero, Nat.mul_one, putL, and_self, ldn]
  refine callH_rc (isWithin_rc _ _ _) ?_
  rintro r new ⟨rfl, rfl⟩
  rw [show inB 99 p.setup = inZ 99 p.setup from rfl]
  cases b2 : inZ 99 p.setup with
  | false =>
    simp (config := {implicitDefEqProofs := false, maxDischargeDepth := 20}) (disch := first | omega | (simp only [lenE]; done) | (simp only [lenE]; omega) | rfl | (simp only [lenE, markR_len]; done) | (simp only [lenE, markR_len]; omega)) only [runE, mapE, listE, initT_5, initT_6, initT_7, initT_8, resV, oneV, binA, unA, reduceCtorEq, Nat.reduceEqDiff, Nat.reduceAdd, Nat.reduceLT, Nat.reduceLeDiff, Nat.reduceMul, Nat.reduceSub, ↓reduceIte, decide_true, decide_false, Bool.true_eq_false, Bool.false_eq_true, Bool.not_true, Bool.not_false, if_true, if_false, and_true, true_and, memE, celE, w64, Nat.zero_add, Nat.add_zero, Nat.mul_one, putL, and_self, ldn]
    try simp only [List.append_assoc, List.cons_append, List.nil_append, List.append_nil]
    exact ⟨_, rfl, by (repeat (first | exact noRo_nil | assumption | apply noRo_own | apply noRo_dead | apply noRo_app)), by simp, by (repeat (first | exact noRo_nil | assumption | apply noRo_own | apply noRo_dead | apply noRo_app))⟩
  | true =>
  simp (config := {implicitDefEqProofs := false, maxDischargeDepth := 20}) (disch := first | omega | (simp only [lenE]; done) | (simp only [lenE]; omega) | rfl | (simp only [lenE, markR_len]; done) | (simp only [lenE, markR_len]; omega)) only [runE, mapE, listE, initT_5, initT_6, initT_7, initT_8, resV, oneV, binA, unA, reduceCtorEq, Nat.reduceEqDiff, Nat.reduceAdd, Nat.reduceLT, Nat.reduceLeDiff, Nat.reduceMul, Nat.reduceSub, ↓reduceIte, decide_true, decide_false, Bool.true_eq_false, Bool.false_eq_true, Bool.not_true, Bool.not_false, if_true, if_false, and_true, true_and, memE, celE, w64, Nat.zero_add, Nat.add_zero, Nat.mul_one, putL, and_self, ldn]
  refine callH_rc (isWithin_rc _ _ _) ?_
  rintro r new ⟨rfl, rfl⟩
  rw [show inB 9 p.unit = inZ 9 p.unit from rfl]
  cases b3 : inZ 9 p.unit with
  | false =>
    simp (config := {implicitDefEqProofs := false, maxDischargeDepth := 20}) (disch := first | omega | (simp only [lenE]; done) | (simp only [lenE]; omega) | rfl | (simp only [lenE, markR_len]; done) | (simp only [lenE, markR_len]; omega)) only [runE, mapE, listE, initT_5, initT_6, initT_7, initT_8, resV, oneV, binA, unA, reduceCtorEq, Nat.reduceEqDiff, Nat.reduceAdd, Nat.reduceLT, Nat.reduceLeDiff, Nat.reduceMul, Nat.reduceSub, ↓reduceIte, decide_true, decide_false, Bool.true_eq_false, Bool.false_eq_true, Bool.not_true, Bool.not_false, if_true, if_false, and_true, true_and, memE, celE, w64, Nat.zero_add, Nat.add_zero, Nat.mul_one, putL, and_self, ldn]
    try simp only [List.append_assoc, List.cons_append, List.nil_append, List.append_nil]
    exact ⟨_, rfl, by (repeat (first | exact noRo_nil | assumption | apply noRo_own | apply noRo_dead | apply noRo_app)), by simp, by (repeat (first | exact noRo_nil | assumption | apply noRo_own | apply noRo_dead | apply noRo_app))⟩
  | true =>
  simp (config := {implicitDefEqProofs := false, maxDischargeDepth := 20}) (disch := first | omega | (simp only [lenE]; done) | (simp only [lenE]; omega) | rfl | (simp only [lenE, markR_len]; done) | (simp only [lenE, markR_len]; omega)) only [runE, mapE, listE, initT_5, initT_6, initT_7, initT_8, resV, oneV, binA, unA, reduceCtorEq, Nat.reduceEqDiff, Nat.reduceAdd, Nat.reduceLT, Nat.reduceLeDiff, Nat.reduceMul, Nat.reduceSub, ↓reduceIte, decide_true, decide_false, Bool.true_eq_false, Bool.false_eq_true, Bool.not_true, Bool.not_false, if_true, if_false, and_true, true_and, memE, celE, w64, Nat.zero_add, Nat.add_zero, Nat.mul_one, putL, and_self, ldn]
  refine callH_rc (isWithin_rc _ _ _) ?_
  rintro r new ⟨rfl, rfl⟩
  rw [show inB 9 p.hold = inZ 9 p.hold from rfl]
  cases b4 : inZ 9 p.hold with
  | false =>
    simp (config := {implicitDefEqProofs := false, maxDischargeDepth := 20}) (disch := first | omega | (simp only [lenE]; done) | (simp only [lenE]; omega) | rfl | (simp only [lenE, markR_len]; done) | (simp only [lenE, markR_len]; omega)) only [runE, mapE, listE, initT_5, initT_6, initT_7, initT_8, resV, oneV, binA, unA, reduceCtorEq, Nat.reduceEqDiff, Nat.reduceAdd, Nat.reduceLT, Nat.reduceLeDiff, Nat.reduceMul, Nat.reduceSub, ↓reduceIte, decide_true, decide_false, Bool.true_eq_false, Bool.false_eq_true, Bool.not_true, Bool.not_false, if_true, if_false, and_true, true_and, memE, celE, w64, Nat.zero_add, Nat.add_zero, Nat.mul_one, putL, and_self, ldn]
    try simp only [List.append_assoc, List.cons_append, List.nil_append, List.append_nil]
    exact ⟨_, rfl, by (repeat (first | exact noRo_nil | assumption | apply noRo_own | apply noRo_dead | apply noRo_app)), by simp, by (repeat (first | exact noRo_nil | assumption | apply noRo_own | apply noRo_dead | apply noRo_app))⟩
  | true =>
  simp (config := {implicitDefEqProofs := false, maxDischargeDepth := 20}) (disch := first | omega | (simp only [lenE]; done) | (simp only [lenE]; omega) | rfl | (simp only [lenE, markR_len]; done) | (simp only [lenE, markR_len]; omega)) only [runE, mapE, listE, initT_5, initT_6, initT_7, initT_8, resV, oneV, binA, unA, reduceCtorEq, Nat.reduceEqDiff, Nat.reduceAdd, Nat.reduceLT, Nat.reduceLeDiff, Nat.reduceMul, Nat.reduceSub, ↓reduceIte, decide_true, decide_false, Bool.true_eq_false, Bool.false_eq_true, Bool.not_true, Bool.not_false, if_true, if_false, and_true, true_and, memE, celE, w64, Nat.zero_add, Nat.add_zero, Nat.mul_one, putL, and_self, ldn]
  refine callH_rc (isWithin_rc _ _ _) ?_
  rintro r new ⟨rfl, rfl⟩
  rw [show inB 9 p.back = inZ 9 p.back from rfl]
  simp (config := {implicitDefEqProofs := false, maxDischargeDepth := 20}) (disch := first | omega | (simp only [lenE]; done) | (simp only [lenE]; omega) | rfl | (simp only [lenE, markR_len]; done) | (simp only [lenE, markR_len]; omega)) only [runE, mapE, listE, initT_5, initT_6, initT_7, initT_8, resV, oneV, binA, unA, reduceCtorEq, Nat.reduceEqDiff, Nat.reduceAdd, Nat.reduceLT, Nat.reduceLeDiff, Nat.reduceMul, Nat.reduceSub, ↓reduceIte, decide_true, decide_false, Bool.true_eq_false, Bool.false_eq_true, Bool.not_true, Bool.not_false, if_true, if_false, and_true, true_and, memE, celE, w64, Nat.zero_add, Nat.add_zero, Nat.mul_one, putL, and_self, ldn]
  try simp only [List.append_assoc, List.cons_append, List.nil_append, List.append_nil]
  exact ⟨_, rfl, by (repeat (first | exact noRo_nil | assumption | apply noRo_own | apply noRo_dead | apply noRo_app)), by simp, by (repeat (first | exact noRo_nil | assumption | apply noRo_own | apply noRo_dead | apply noRo_app))⟩
end Go.Proofs.Ytckpfgkgigicpaa.Ab
end
section
namespace Go.Proofs.Ytckpfgkgigicpaa.Ab
open Go Go.RowKit
set_option linter.unusedVariables false
theorem BoxA.but {m m' : Mem} {id lo hi : Nat} {vs : List Value} (h : BoxA m id vs) (hb : But lo hi m m') (hd : id < lo ∨ hi ≤ id) : BoxA m' id vs := by
  have hl := h.lt
  obtain ⟨e, h⟩ := h
  exact ⟨e, by rw [hb.2 id hl hd]; exact h⟩
theorem IntsA.one {m : Mem} {v : Value} {l : List Int} (h : IntsA m v l) (xs : List Value) : onesB (v :: xs) = onesB xs := by
  rcases h.form with ⟨rfl, _⟩ | ⟨id, off, fl, rfl⟩ <;> exact onesB_sl _ _ _ _
end Go.Proofs.Ytckpfgkgigicpaa.Ab
end
section
namespace Go.Proofs.Ytckpfgkgigicpaa.Ab
open Go Go.RowKit
set_option linter.unusedVariables false
set_option linter.unusedSimpArgs false
theorem BoxA.rdk {m : Mem} {id : Nat} {vs : List Value} (h : BoxA m id vs) (k : Nat) : rdc m id k = vs[k]? := by
  obtain ⟨_, h⟩ := h
  simp [rdc, h]
theorem IntsA.xt2 {m M : Mem} {v : Value} {l : List Int} (h : IntsA m v l) (hx : Ext m M) : IntsA M v l := hx.ints h.ro
theorem ProcA.mk {m : Mem} {u : Value} {p : Pr} (h : IntsA m u p.w) : ProcA m (procV p u) p := ⟨u, rfl, h⟩
theorem ext_ansV2 {m M : Mem} {x : Value} (h : Ext m M) : newQ m (AnsV x) x M := by
  obtain ⟨n0, rfl, h0⟩ := h
  exact ⟨n0, rfl, h0, rfl, h0⟩
theorem ext_ansV3 {m M : Mem} {x y : Value} (h : Ext m M) (e : y = x) : newQ m (AnsV x) y M := by subst e; exact ext_ansV2 h

theorem l1Most6_rc (m : Mem) (a b : Int) : RC Try.prog 57 [.int .i64 a, .int .i64 b] m fun r new => r = .int .i64 (max a b) ∧ new = [] := by
  refine rc_of_run mixed ok_spec_l1Most (by simp) (go_start _ _ _ ?_)
  by_cases h : b < a
  · simp (config := {implicitDefEqProofs := false, maxDischargeDepth := 20}) (disch := first | omega | (simp only [lenE]; done) | (simp only [lenE]; omega) | rfl | (simp only [lenE, markR_len]; done) | (simp only [lenE, markR_len]; omega)) only [runE, mapE, listE, initT_5, initT_6, initT_7, initT_8, resV, oneV, binA, unA, reduceCtorEq, Nat.reduceEqDiff, Nat.reduceAdd, Nat.reduceLT, Nat.reduceLeDiff, Nat.reduceMul, Nat.reduceSub, ↓reduceIte, decide_true, decide_false, Bool.true_eq_false, Bool.false_eq_true, Bool.not_true, Bool.not_false, if_true, if_false, and_true, true_and, memE, celE, w64, Nat.zero_add, Nat.add_zero, Nat.mul_one, putL, and_self, ldn, c_spec_l1Most, r_spec_l1Most, h, gt_iff_lt]
    exact newQ_nil ⟨by congr 1; omega, rfl⟩
  · simp (config := {implicitDefEqProofs := false, maxDischargeDepth := 20}) (disch := first | omega | (simp only [lenE]; done) | (simp only [lenE]; omega) | rfl | (simp only [lenE, markR_len]; done) | (simp only [lenE, markR_len]; omega)) only [runE, mapE, listE, initT_5, initT_6, initT_7, initT_8, resV, oneV, binA, unA, reduceCtorEq, Nat.reduceEqDiff, Nat.reduceAdd, Nat.reduceLT, Nat.reduceLeDiff, Nat.reduceMul, Nat.reduceSub, ↓reduceIte, decide_true, decide_false, Bool.true_eq_false, Bool.false_eq_true, Bool.not_true, Bool.not_false, if_true, if_false, and_true, true_and, memE, celE, w64, Nat.zero_add, Nat.add_zero, Nat.mul_one, putL, and_self, ldn, c_spec_l1Most, r_spec_l1Most, h, gt_iff_lt]
    exact newQ_nil ⟨by congr 1; omega, rfl⟩
theorem p_small {p : Pr} (hg : GoodP p) (k : Nat) (hk : k ≤ p.w.length) : -4611686018427387904 ≤ sumTo p.w k ∧ sumTo p.w k ≤ 4611686018427387904 := by
  have := hg.sum k
  have := hg.len
  omega
theorem l2SumP_rc (m : Mem) (u : Value) (p : Pr) (h : IntsA m u p.w) (hg : GoodP p) : RC Try.prog 49 [u] m fun r new => r = .int .i64 p.whole ∧ new = [] := l2Sum_rc m u p.w h (p_small hg)
theorem sumOfP_rc (m : Mem) (u : Value) (p : Pr) (h : IntsA m u p.w) (hg : GoodP p) : RC Try.prog 80 [u] m fun r new => r = .int .i64 p.whole ∧ new = [] := sumOf_rc m u p.w h (p_small hg)
theorem l6Power_rc (m : Mem) (v : Value) (p : Pr) (x : Int) (n : Nat) (h : ProcA m v p) (hg : GoodP p) (hx : x = n) (hn : n ≤ 5) :
    RC Try.prog 60 [v, .int .i64 x] m (AnsV (.int .i64 (p.pow n))) := by
  subst hx
  refine rc_of_run mixed ok_spec_l6Power (by simp) (go_start _ _ _ ?_)
  obtain ⟨u, rfl, hu⟩ := h.ro
  simp (config := {implicitDefEqProofs := false, maxDischargeDepth := 20}) (disch := first | omega | (simp only [lenE]; done) | (simp only [lenE]; omega) | rfl | (simp only [lenE, markR_len]; done) | (simp only [lenE, markR_len]; omega)) only [runE, mapE, listE, initT_5, initT_6, initT_7, initT_8, resV, oneV, binA, unA, reduceCtorEq, Nat.reduceEqDiff, Nat.reduceAdd, Nat.reduceLT, Nat.reduceLeDiff, Nat.reduceMul, Nat.reduceSub, ↓reduceIte, decide_true, decide_false, Bool.true_eq_false, Bool.false_eq_true, Bool.not_true, Bool.not_false, if_true, if_false, and_true, true_and, memE, celE, w64, Nat.zero_add, Nat.add_zero, Nat.mul_one, putL, and_self, ldn, c_spec_l6Power, r_spec_l6Power]
  refine callH_rc (l2SumP_rc _ u p (hu.ext _) hg) ?_
  rintro r new ⟨rfl, rfl⟩
  simp (config := {implicitDefEqProofs := false, maxDischargeDepth := 20}) (disch := first | omega | (simp only [lenE]; done) | (simp only [lenE]; omega) | rfl | (simp only [lenE, markR_len]; done) | (simp only [lenE, markR_len]; omega)) only [runE, mapE, listE, initT_5, initT_6, initT_7, initT_8, resV, oneV, binA, unA, reduceCtorEq, Nat.reduceEqDiff, Nat.reduceAdd, Nat.reduceLT, Nat.reduceLeDiff, Nat.reduceMul, Nat.reduceSub, ↓reduceIte, decide_true, decide_false, Bool.true_eq_false, Bool.false_eq_true, Bool.not_true, Bool.not_false, if_true, if_false, and_true, true_and, memE, celE, w64, Nat.zero_add, Nat.add_zero, Nat.mul_one, putL, and_self, ldn]
  refine loop_inv mixed (fun s => ∃ (k : Nat) (M : Mem), k ≤ n ∧ s.m = M ∧ Ext m M ∧ s.t 1 = .int .i64 n ∧ s.t 5 = .int .i64 (p.pow k) ∧ s.t 6 = .int .i64 p.whole ∧ s.t 7 = .int .i64 k) (fun s => n - (intOf (s.t 7)).toNat)
    ⟨0, _, by omega, rfl, (Ext.refl m).one _ _, rfl, rfl, rfl, rfl⟩ ?_
  rintro s ⟨k, M, hk, tm, hx, t1, t5, t6, t7⟩
  by_cases hlt : k < n
  · have hlt' : (k : Int) < n := by omega
    have hw : 1 ≤ p.pow k * p.whole ∧ p.pow k * p.whole ≤ 3200000 := hg.pow5 (n := k + 1) (by omega)
    simp (config := {implicitDefEqProofs := false, maxDischargeDepth := 20}) (disch := first | omega | (simp only [lenE]; done) | (simp only [lenE]; omega) | rfl | (simp only [lenE, markR_len]; done) | (simp only [lenE, markR_len]; omega)) only [runE, mapE, listE, initT_5, initT_6, initT_7, initT_8, resV, oneV, binA, unA, reduceCtorEq, Nat.reduceEqDiff, Nat.reduceAdd, Nat.reduceLT, Nat.reduceLeDiff, Nat.reduceMul, Nat.reduceSub, ↓reduceIte, decide_true, decide_false, Bool.true_eq_false, Bool.false_eq_true, Bool.not_true, Bool.not_false, if_true, if_false, and_true, true_and, memE, celE, w64, Nat.zero_add, Nat.add_zero, Nat.mul_one, putL, and_self, ldn, tm, t1, t5, t6, t7, hlt']
    refine ⟨⟨k + 1, _, by omega, rfl, hx, rfl, by simp⟩, ?_⟩
    simp [intOf]; omega
  · have hlt' : ¬ ((k : Int) < n) := by omega
    have e : k = n := by omega
    simp (config := {implicitDefEqProofs := false, maxDischargeDepth := 20}) (disch := first | omega | (simp only [lenE]; done) | (simp only [lenE]; omega) | rfl | (simp only [lenE, markR_len]; done) | (simp only [lenE, markR_len]; omega)) only [runE, mapE, listE, initT_5, initT_6, initT_7, initT_8, resV, oneV, binA, unA, reduceCtorEq, Nat.reduceEqDiff, Nat.reduceAdd, Nat.reduceLT, Nat.reduceLeDiff, Nat.reduceMul, Nat.reduceSub, ↓reduceIte, decide_true, decide_false, Bool.true_eq_false, Bool.false_eq_true, Bool.not_true, Bool.not_false, if_true, if_false, and_true, true_and, memE, celE, w64, Nat.zero_add, Nat.add_zero, Nat.mul_one, putL, and_self, ldn, tm, t1, t5, t6, t7, hlt']
    rw [e]
    exact ext_ansV2 hx
theorem powerFrom_rc (m : Mem) (v : Value) (p : Pr) (x : Int) (n : Nat) (h : ProcA m v p) (hg : GoodP p) (hx : p.turns - x = n) (hn : n ≤ 5) :
    RC Try.prog 62 [v, .int .i64 x] m (AnsV (.int .i64 (p.pow n))) := by
  refine rc_of_run mixed ok_impl_powerFrom (by simp) (go_start _ _ _ ?_)
  obtain ⟨u, rfl, hu⟩ := h.ro
  have ht := hg.turns
  simp (config := {implicitDefEqProofs := false, maxDischargeDepth := 20}) (disch := first | omega | (simp only [lenE]; done) | (simp only [lenE]; omega) | rfl | (simp only [lenE, markR_len]; done) | (simp only [lenE, markR_len]; omega)) only [runE, mapE, listE, initT_5, initT_6, initT_7, initT_8, resV, oneV, binA, unA, reduceCtorEq, Nat.reduceEqDiff, Nat.reduceAdd, Nat.reduceLT, Nat.reduceLeDiff, Nat.reduceMul, Nat.reduceSub, ↓reduceIte, decide_true, decide_false, Bool.true_eq_false, Bool.false_eq_true, Bool.not_true, Bool.not_false, if_true, if_false, and_true, true_and, memE, celE, w64, Nat.zero_add, Nat.add_zero, Nat.mul_one, putL, and_self, ldn, c_impl_powerFrom, r_impl_powerFrom]
  rw [hx]
  refine loop_inv mixed (fun s => ∃ (k : Nat) (M : Mem), k ≤ n ∧ s.m = M ∧ Ext m M ∧ BoxA M m.length [.int .i64 p.turns, u, .int .i64 p.setup, .int .i64 p.unit, .int .i64 p.hold, .int .i64 p.back] ∧ s.t 2 = .pointer (some ⟨m.length, 0, none⟩) ∧ s.t 5 = .int .i64 (p.pow k) ∧ s.t 9 = .int .i64 n ∧ s.t 10 = .int .i64 k) (fun s => n - (intOf (s.t 10)).toNat)
    ⟨0, _, by omega, rfl, (Ext.refl m).one _ _, BoxA.here _ _ _ (roM_len m).symm, rfl, rfl, rfl, rfl⟩ ?_
  rintro s ⟨k, M, hk, tm, hx, hb, t2, t5, t9, t10⟩
  by_cases hlt : k < n
  · have hlt' : (k : Int) < n := by omega
    have hw : 1 ≤ p.pow k * p.whole ∧ p.pow k * p.whole ≤ 3200000 := hg.pow5 (n := k + 1) (by omega)
    simp (config := {implicitDefEqProofs := false, maxDischargeDepth := 20}) (disch := first | omega | (simp only [lenE]; done) | (simp only [lenE]; omega) | rfl | (simp only [lenE, markR_len]; done) | (simp only [lenE, markR_len]; omega)) only [runE, mapE, listE, initT_5, initT_6, initT_7, initT_8, resV, oneV, binA, unA, reduceCtorEq, Nat.reduceEqDiff, Nat.reduceAdd, Nat.reduceLT, Nat.reduceLeDiff, Nat.reduceMul, Nat.reduceSub, ↓reduceIte, decide_true, decide_false, Bool.true_eq_false, Bool.false_eq_true, Bool.not_true, Bool.not_false, if_true, if_false, and_true, true_and, memE, celE, w64, Nat.zero_add, Nat.add_zero, Nat.mul_one, putL, and_self, ldn, tm, t2, t5, t9, t10, hlt', hb.rdk]
    refine callH_rc (sumOfP_rc _ u p (hx.ints hu) hg) ?_
    rintro r new ⟨rfl, rfl⟩
    simp (config := {implicitDefEqProofs := false, maxDischargeDepth := 20}) (disch := first | omega | (simp only [lenE]; done) | (simp only [lenE]; omega) | rfl | (simp only [lenE, markR_len]; done) | (simp only [lenE, markR_len]; omega)) only [runE, mapE, listE, initT_5, initT_6, initT_7, initT_8, resV, oneV, binA, unA, reduceCtorEq, Nat.reduceEqDiff, Nat.reduceAdd, Nat.reduceLT, Nat.reduceLeDiff, Nat.reduceMul, Nat.reduceSub, ↓reduceIte, decide_true, decide_false, Bool.true_eq_false, Bool.false_eq_true, Bool.not_true, Bool.not_false, if_true, if_false, and_true, true_and, memE, celE, w64, Nat.zero_add, Nat.add_zero, Nat.mul_one, putL, and_self, ldn, tm, t2, t5, t9, t10]
    refine ⟨⟨k + 1, _, by omega, rfl, hx, hb, rfl, by simp⟩, ?_⟩
    simp [intOf]; omega
  · have hlt' : ¬ ((k : Int) < n) := by omega
    have e : k = n := by omega
    simp (config := {implicitDefEqProofs := false, maxDischargeDepth := 20}) (disch := first | omega | (simp only [lenE]; done) | (simp only [lenE]; omega) | rfl | (simp only [lenE, markR_len]; done) | (simp only [lenE, markR_len]; omega)) only [runE, mapE, listE, initT_5, initT_6, initT_7, initT_8, resV, oneV, binA, unA, reduceCtorEq, Nat.reduceEqDiff, Nat.reduceAdd, Nat.reduceLT, Nat.reduceLeDiff, Nat.reduceMul, Nat.reduceSub, ↓reduceIte, decide_true, decide_false, Bool.true_eq_false, Bool.false_eq_true, Bool.not_true, Bool.not_false, if_true, if_false, and_true, true_and, memE, celE, w64, Nat.zero_add, Nat.add_zero, Nat.mul_one, putL, and_self, ldn, tm, t2, t5, t9, t10, hlt']
    rw [e]
    exact ext_ansV2 hx
theorem l6Floor_rc (m : Mem) (v : Value) (p : Pr) (h : ProcA m v p) (hg : GoodP p) : RC Try.prog 58 [v] m (AnsV (.int .i64 p.floor)) := by
  refine rc_of_run mixed ok_spec_l6Floor (by simp) (go_start _ _ _ ?_)
  obtain ⟨u, rfl, hu⟩ := h.ro
  have hl := hg.len
  simp (config := {implicitDefEqProofs := false, maxDischargeDepth := 20}) (disch := first | omega | (simp only [lenE]; done) | (simp only [lenE]; omega) | rfl | (simp only [lenE, markR_len]; done) | (simp only [lenE, markR_len]; omega)) only [runE, mapE, listE, initT_5, initT_6, initT_7, initT_8, resV, oneV, binA, unA, reduceCtorEq, Nat.reduceEqDiff, Nat.reduceAdd, Nat.reduceLT, Nat.reduceLeDiff, Nat.reduceMul, Nat.reduceSub, ↓reduceIte, decide_true, decide_false, Bool.true_eq_false, Bool.false_eq_true, Bool.not_true, Bool.not_false, if_true, if_false, and_true, true_and, memE, celE, w64, Nat.zero_add, Nat.add_zero, Nat.mul_one, putL, and_self, ldn, c_spec_l6Floor, r_spec_l6Floor, hu.len]
  try simp only [List.append_assoc, List.cons_append, List.nil_append, List.append_nil]
  exact ⟨_, rfl, by (repeat (first | exact noRo_nil | assumption | apply noRo_own | apply noRo_dead | apply noRo_app)), rfl, by (repeat (first | exact noRo_nil | assumption | apply noRo_own | apply noRo_dead | apply noRo_app))⟩
theorem floorOf_rc (m : Mem) (v : Value) (p : Pr) (h : ProcA m v p) (hg : p.w.length ≤ 5) : RC Try.prog 53 [v] m (AnsV (.int .i64 p.floor)) := by
  refine rc_of_run mixed ok_impl_floorOf (by simp) (go_start _ _ _ ?_)
  obtain ⟨u, rfl, hu⟩ := h.ro
  simp (config := {implicitDefEqProofs := false, maxDischargeDepth := 20}) (disch := first | omega | (simp only [lenE]; done) | (simp only [lenE]; omega) | rfl | (simp only [lenE, markR_len]; done) | (simp only [lenE, markR_len]; omega)) only [runE, mapE, listE, initT_5, initT_6, initT_7, initT_8, resV, oneV, binA, unA, reduceCtorEq, Nat.reduceEqDiff, Nat.reduceAdd, Nat.reduceLT, Nat.reduceLeDiff, Nat.reduceMul, Nat.reduceSub, ↓reduceIte, decide_true, decide_false, Bool.true_eq_false, Bool.false_eq_true, Bool.not_true, Bool.not_false, if_true, if_false, and_true, true_and, memE, celE, w64, Nat.zero_add, Nat.add_zero, Nat.mul_one, putL, and_self, ldn, c_impl_floorOf, r_impl_floorOf, hu.len]
  try simp only [List.append_assoc, List.cons_append, List.nil_append, List.append_nil]
  exact ⟨_, rfl, by (repeat (first | exact noRo_nil | assumption | apply noRo_own | apply noRo_dead | apply noRo_app)), rfl, by (repeat (first | exact noRo_nil | assumption | apply noRo_own | apply noRo_dead | apply noRo_app))⟩
theorem keep_in {p : Pr} (hg : GoodP p) {x : Int} (hx : -10 ≤ x ∧ x ≤ 10) : -90 ≤ p.hold * x ∧ p.hold * x ≤ 90 ∧ -90 ≤ (0 - p.back) * x ∧ (0 - p.back) * x ≤ 90 := by
  have h1 := hg.hold
  have h2 := hg.back
  rcases Int.le_total 0 x with h | h
  · have a := mul_in' (A := 9) (B := 10) h1 (x := x) (by omega)
    have b := mul_in' (A := 9) (B := 10) h2 (x := x) (by omega)
    rw [Int.zero_sub, Int.neg_mul]; omega
  · have a := mul_in' (A := 9) (B := 10) h1 (x := -x) (by omega)
    have b := mul_in' (A := 9) (B := 10) h2 (x := -x) (by omega)
    rw [Int.zero_sub, Int.neg_mul]
    rw [Int.mul_neg] at a b; omega
theorem l6Kept_rc (m : Mem) (v : Value) (p : Pr) (x : Int) (h : ProcA m v p) (hg : GoodP p) (hx : -10 ≤ x ∧ x ≤ 10) : RC Try.prog 79 [v, .int .i64 x] m (AnsV (.int .i64 (p.kept x))) := by
  refine rc_of_run mixed ok_spec_l6Kept (by simp) (go_start _ _ _ ?_)
  obtain ⟨u, rfl, hu⟩ := h.ro
  have hk := keep_in hg hx
  have hb := hg.back
  unfold Pr.kept
  by_cases hp : 0 < x
  · simp (config := {implicitDefEqProofs := false, maxDischargeDepth := 20}) (disch := first | omega | (simp only [lenE]; done) | (simp only [lenE]; omega) | rfl | (simp only [lenE, markR_len]; done) | (simp only [lenE, markR_len]; omega)) only [runE, mapE, listE, initT_5, initT_6, initT_7, initT_8, resV, oneV, binA, unA, reduceCtorEq, Nat.reduceEqDiff, Nat.reduceAdd, Nat.reduceLT, Nat.reduceLeDiff, Nat.reduceMul, Nat.reduceSub, ↓reduceIte, decide_true, decide_false, Bool.true_eq_false, Bool.false_eq_true, Bool.not_true, Bool.not_false, if_true, if_false, and_true, true_and, memE, celE, w64, Nat.zero_add, Nat.add_zero, Nat.mul_one, putL, and_self, ldn, c_spec_l6Kept, r_spec_l6Kept, gt_iff_lt, hp]
    try simp only [List.append_assoc, List.cons_append, List.nil_append, List.append_nil]
    exact ⟨_, rfl, by (repeat (first | exact noRo_nil | assumption | apply noRo_own | apply noRo_dead | apply noRo_app)), rfl, by (repeat (first | exact noRo_nil | assumption | apply noRo_own | apply noRo_dead | apply noRo_app))⟩
  · simp (config := {implicitDefEqProofs := false, maxDischargeDepth := 20}) (disch := first | omega | (simp only [lenE]; done) | (simp only [lenE]; omega) | rfl | (simp only [lenE, markR_len]; done) | (simp only [lenE, markR_len]; omega)) only [runE, mapE, listE, initT_5, initT_6, initT_7, initT_8, resV, oneV, binA, unA, reduceCtorEq, Nat.reduceEqDiff, Nat.reduceAdd, Nat.reduceLT, Nat.reduceLeDiff, Nat.reduceMul, Nat.reduceSub, ↓reduceIte, decide_true, decide_false, Bool.true_eq_false, Bool.false_eq_true, Bool.not_true, Bool.not_false, if_true, if_false, and_true, true_and, memE, celE, w64, Nat.zero_add, Nat.add_zero, Nat.mul_one, putL, and_self, ldn, c_spec_l6Kept, r_spec_l6Kept, gt_iff_lt, hp]
    try simp only [List.append_assoc, List.cons_append, List.nil_append, List.append_nil]
    exact ⟨_, rfl, by (repeat (first | exact noRo_nil | assumption | apply noRo_own | apply noRo_dead | apply noRo_app)), by rw [Int.zero_sub], by (repeat (first | exact noRo_nil | assumption | apply noRo_own | apply noRo_dead | apply noRo_app))⟩
theorem isOwed6_rc (m : Mem) (x : Int) : RC Try.prog 84 [.int .i64 x] m fun r new => r = .bool (decide (x < 0)) ∧ new = [] := by
  refine rc_of_run mixed ok_impl_isOwed (by simp) (go_start _ _ _ ?_)
  simp (config := {implicitDefEqProofs := false, maxDischargeDepth := 20}) (disch := first | omega | (simp only [lenE]; done) | (simp only [lenE]; omega) | rfl | (simp only [lenE, markR_len]; done) | (simp only [lenE, markR_len]; omega)) only [runE, mapE, listE, initT_5, initT_6, initT_7, initT_8, resV, oneV, binA, unA, reduceCtorEq, Nat.reduceEqDiff, Nat.reduceAdd, Nat.reduceLT, Nat.reduceLeDiff, Nat.reduceMul, Nat.reduceSub, ↓reduceIte, decide_true, decide_false, Bool.true_eq_false, Bool.false_eq_true, Bool.not_true, Bool.not_false, if_true, if_false, and_true, true_and, memE, celE, w64, Nat.zero_add, Nat.add_zero, Nat.mul_one, putL, and_self, ldn, c_impl_isOwed, r_impl_isOwed]
  exact newQ_nil ⟨rfl, rfl⟩
theorem levelCost_rc (m : Mem) (v : Value) (p : Pr) (x : Int) (h : ProcA m v p) (hg : GoodP p) (hx : -10 ≤ x ∧ x ≤ 10) : RC Try.prog 81 [v, .int .i64 x] m (AnsV (.int .i64 (p.kept x))) := by
  refine rc_of_run mixed ok_impl_levelCost (by simp) (go_start _ _ _ ?_)
  obtain ⟨u, rfl, hu⟩ := h.ro
  have hk := keep_in hg hx
  have hb := hg.back
  unfold Pr.kept
  simp (config := {implicitDefEqProofs := false, maxDischargeDepth := 20}) (disch := first | omega | (simp only [lenE]; done) | (simp only [lenE]; omega) | rfl | (simp only [lenE, markR_len]; done) | (simp only [lenE, markR_len]; omega)) only [runE, mapE, listE, initT_5, initT_6, initT_7, initT_8, resV, oneV, binA, unA, reduceCtorEq, Nat.reduceEqDiff, Nat.reduceAdd, Nat.reduceLT, Nat.reduceLeDiff, Nat.reduceMul, Nat.reduceSub, ↓reduceIte, decide_true, decide_false, Bool.true_eq_false, Bool.false_eq_true, Bool.not_true, Bool.not_false, if_true, if_false, and_true, true_and, memE, celE, w64, Nat.zero_add, Nat.add_zero, Nat.mul_one, putL, and_self, ldn, c_impl_levelCost, r_impl_levelCost]
  refine callH_rc (isOwed6_rc _ x) ?_
  rintro r new ⟨rfl, rfl⟩
  by_cases hp : x < 0
  · simp (config := {implicitDefEqProofs := false, maxDischargeDepth := 20}) (disch := first | omega | (simp only [lenE]; done) | (simp only [lenE]; omega) | rfl | (simp only [lenE, markR_len]; done) | (simp only [lenE, markR_len]; omega)) only [runE, mapE, listE, initT_5, initT_6, initT_7, initT_8, resV, oneV, binA, unA, reduceCtorEq, Nat.reduceEqDiff, Nat.reduceAdd, Nat.reduceLT, Nat.reduceLeDiff, Nat.reduceMul, Nat.reduceSub, ↓reduceIte, decide_true, decide_false, Bool.true_eq_false, Bool.false_eq_true, Bool.not_true, Bool.not_false, if_true, if_false, and_true, true_and, memE, celE, w64, Nat.zero_add, Nat.add_zero, Nat.mul_one, putL, and_self, ldn, hp]
    try simp only [List.append_assoc, List.cons_append, List.nil_append, List.append_nil]
    exact ⟨_, rfl, by (repeat (first | exact noRo_nil | assumption | apply noRo_own | apply noRo_dead | apply noRo_app)), by rw [if_neg (by omega), Int.zero_sub], by (repeat (first | exact noRo_nil | assumption | apply noRo_own | apply noRo_dead | apply noRo_app))⟩
  · simp (config := {implicitDefEqProofs := false, maxDischargeDepth := 20}) (disch := first | omega | (simp only [lenE]; done) | (simp only [lenE]; omega) | rfl | (simp only [lenE, markR_len]; done) | (simp only [lenE, markR_len]; omega)) only [runE, mapE, listE, initT_5, initT_6, initT_7, initT_8, resV, oneV, binA, unA, reduceCtorEq, Nat.reduceEqDiff, Nat.reduceAdd, Nat.reduceLT, Nat.reduceLeDiff, Nat.reduceMul, Nat.reduceSub, ↓reduceIte, decide_true, decide_false, Bool.true_eq_false, Bool.false_eq_true, Bool.not_true, Bool.not_false, if_true, if_false, and_true, true_and, memE, celE, w64, Nat.zero_add, Nat.add_zero, Nat.mul_one, putL, and_self, ldn, hp]
    try simp only [List.append_assoc, List.cons_append, List.nil_append, List.append_nil]
    refine ⟨_, rfl, by (repeat (first | exact noRo_nil | assumption | apply noRo_own | apply noRo_dead | apply noRo_app)), ?_, by (repeat (first | exact noRo_nil | assumption | apply noRo_own | apply noRo_dead | apply noRo_app))⟩
    by_cases h0 : 0 < x
    · rw [if_pos h0]
    · have : x = 0 := by omega
      subst this
      simp
theorem placeOf_rc (m : Mem) (x : Int) (hx : -10 ≤ x ∧ x ≤ 10) : RC Try.prog 72 [.int .i64 x] m fun r new => r = .int .i64 (x + 10) ∧ new = [] := by
  refine rc_of_run mixed ok_impl_placeOf (by simp) (go_start _ _ _ ?_)
  simp (config := {implicitDefEqProofs := false, maxDischargeDepth := 20}) (disch := first | omega | (simp only [lenE]; done) | (simp only [lenE]; omega) | rfl | (simp only [lenE, markR_len]; done) | (simp only [lenE, markR_len]; omega)) only [runE, mapE, listE, initT_5, initT_6, initT_7, initT_8, resV, oneV, binA, unA, reduceCtorEq, Nat.reduceEqDiff, Nat.reduceAdd, Nat.reduceLT, Nat.reduceLeDiff, Nat.reduceMul, Nat.reduceSub, ↓reduceIte, decide_true, decide_false, Bool.true_eq_false, Bool.false_eq_true, Bool.not_true, Bool.not_false, if_true, if_false, and_true, true_and, memE, celE, w64, Nat.zero_add, Nat.add_zero, Nat.mul_one, putL, and_self, ldn, c_impl_placeOf, r_impl_placeOf]
  exact newQ_nil ⟨rfl, rfl⟩
theorem ord_in {p : Pr} (hg : GoodP p) {x y : Int} (hx : -10 ≤ x) (hy : y ≤ 10) (h : x ≤ y) : 0 ≤ p.unit * (y - x) ∧ p.unit * (y - x) ≤ 180 := mul_in' (A := 9) (B := 20) hg.unit (by omega)
theorem l6Order_rc (m : Mem) (v : Value) (p : Pr) (x y : Int) (h : ProcA m v p) (hg : GoodP p) (hx : -10 ≤ x ∧ x ≤ 10) (hy : -10 ≤ y ∧ y ≤ 10) : RC Try.prog 59 [v, .int .i64 x, .int .i64 y] m (AnsV (.int .i64 (p.ord x y))) := by
  refine rc_of_run mixed ok_spec_l6Order (by simp) (go_start _ _ _ ?_)
  obtain ⟨u, rfl, hu⟩ := h.ro
  have hs := hg.setup
  unfold Pr.ord
  by_cases hp : x < y
  · have ho := ord_in hg (x := x) (y := y) (by omega) (by omega) (by omega)
    simp (config := {implicitDefEqProofs := false, maxDischargeDepth := 20}) (disch := first | omega | (simp only [lenE]; done) | (simp only [lenE]; omega) | rfl | (simp only [lenE, markR_len]; done) | (simp only [lenE, markR_len]; omega)) only [runE, mapE, listE, initT_5, initT_6, initT_7, initT_8, resV, oneV, binA, unA, reduceCtorEq, Nat.reduceEqDiff, Nat.reduceAdd, Nat.reduceLT, Nat.reduceLeDiff, Nat.reduceMul, Nat.reduceSub, ↓reduceIte, decide_true, decide_false, Bool.true_eq_false, Bool.false_eq_true, Bool.not_true, Bool.not_false, if_true, if_false, and_true, true_and, memE, celE, w64, Nat.zero_add, Nat.add_zero, Nat.mul_one, putL, and_self, ldn, c_spec_l6Order, r_spec_l6Order, gt_iff_lt, hp]
    try simp only [List.append_assoc, List.cons_append, List.nil_append, List.append_nil]
    exact ⟨_, rfl, by (repeat (first | exact noRo_nil | assumption | apply noRo_own | apply noRo_dead | apply noRo_app)), rfl, by (repeat (first | exact noRo_nil | assumption | apply noRo_own | apply noRo_dead | apply noRo_app))⟩
  · simp (config := {implicitDefEqProofs := false, maxDischargeDepth := 20}) (disch := first | omega | (simp only [lenE]; done) | (simp only [lenE]; omega) | rfl | (simp only [lenE, markR_len]; done) | (simp only [lenE, markR_len]; omega)) only [runE, mapE, listE, initT_5, initT_6, initT_7, initT_8, resV, oneV, binA, unA, reduceCtorEq, Nat.reduceEqDiff, Nat.reduceAdd, Nat.reduceLT, Nat.reduceLeDiff, Nat.reduceMul, Nat.reduceSub, ↓reduceIte, decide_true, decide_false, Bool.true_eq_false, Bool.false_eq_true, Bool.not_true, Bool.not_false, if_true, if_false, and_true, true_and, memE, celE, w64, Nat.zero_add, Nat.add_zero, Nat.mul_one, putL, and_self, ldn, c_spec_l6Order, r_spec_l6Order, gt_iff_lt, hp]
    try simp only [List.append_assoc, List.cons_append, List.nil_append, List.append_nil]
    exact ⟨_, rfl, by (repeat (first | exact noRo_nil | assumption | apply noRo_own | apply noRo_dead | apply noRo_app)), rfl, by (repeat (first | exact noRo_nil | assumption | apply noRo_own | apply noRo_dead | apply noRo_app))⟩
theorem liftCost_rc (m : Mem) (v : Value) (p : Pr) (x y : Int) (h : ProcA m v p) (hg : GoodP p) (hx : -10 ≤ x ∧ x ≤ 10) (hy : y ≤ 10) (hxy : x ≤ y) : RC Try.prog 78 [v, .int .i64 x, .int .i64 y] m (AnsV (.int .i64 (p.ord x y))) := by
  refine rc_of_run mixed ok_impl_liftCost (by simp) (go_start _ _ _ ?_)
  obtain ⟨u, rfl, hu⟩ := h.ro
  have hs := hg.setup
  have ho := ord_in hg (x := x) (y := y) (by omega) (by omega) hxy
  unfold Pr.ord
  by_cases hp : x < y
  · simp (config := {implicitDefEqProofs := false, maxDischargeDepth := 20}) (disch := first | omega | (simp only [lenE]; done) | (simp only [lenE]; omega) | rfl | (simp only [lenE, markR_len]; done) | (simp only [lenE, markR_len]; omega)) only [runE, mapE, listE, initT_5, initT_6, initT_7, initT_8, resV, oneV, binA, unA, reduceCtorEq, Nat.reduceEqDiff, Nat.reduceAdd, Nat.reduceLT, Nat.reduceLeDiff, Nat.reduceMul, Nat.reduceSub, ↓reduceIte, decide_true, decide_false, Bool.true_eq_false, Bool.false_eq_true, Bool.not_true, Bool.not_false, if_true, if_false, and_true, true_and, memE, celE, w64, Nat.zero_add, Nat.add_zero, Nat.mul_one, putL, and_self, ldn, c_impl_liftCost, r_impl_liftCost, gt_iff_lt, hp]
    try simp only [List.append_assoc, List.cons_append, List.nil_append, List.append_nil]
    exact ⟨_, rfl, by (repeat (first | exact noRo_nil | assumption | apply noRo_own | apply noRo_dead | apply noRo_app)), by rw [Int.add_comm], by (repeat (first | exact noRo_nil | assumption | apply noRo_own | apply noRo_dead | apply noRo_app))⟩
  · have e : y = x := by omega
    subst e
    simp (config := {implicitDefEqProofs := false, maxDischargeDepth := 20}) (disch := first | omega | (simp only [lenE]; done) | (simp only [lenE]; omega) | rfl | (simp only [lenE, markR_len]; done) | (simp only [lenE, markR_len]; omega)) only [runE, mapE, listE, initT_5, initT_6, initT_7, initT_8, resV, oneV, binA, unA, reduceCtorEq, Nat.reduceEqDiff, Nat.reduceAdd, Nat.reduceLT, Nat.reduceLeDiff, Nat.reduceMul, Nat.reduceSub, ↓reduceIte, decide_true, decide_false, Bool.true_eq_false, Bool.false_eq_true, Bool.not_true, Bool.not_false, if_true, if_false, and_true, true_and, memE, celE, w64, Nat.zero_add, Nat.add_zero, Nat.mul_one, putL, and_self, ldn, c_impl_liftCost, r_impl_liftCost, gt_iff_lt, hp]
    try simp only [List.append_assoc, List.cons_append, List.nil_append, List.append_nil]
    exact ⟨_, rfl, by (repeat (first | exact noRo_nil | assumption | apply noRo_own | apply noRo_dead | apply noRo_app)), by simp, by (repeat (first | exact noRo_nil | assumption | apply noRo_own | apply noRo_dead | apply noRo_app))⟩


theorem at_of {m : Mem} {vn : Value} {next : List Int} (hn : IntsA m vn next) (hl : next.length = 21) {z : Int} (h1 : 0 ≤ z) (h2 : z ≤ 20) :
    iadA 1 vn (.int .i64 z) = some (pAt vn z.toNat) ∧ ldA m none (pAt vn z.toNat) = some (.int .i64 (next.getD z.toNat 0)) := by
  have := hn.at_ z.toNat (by omega)
  rw [show ((z.toNat : Nat) : Int) = z by omega] at this
  exact ⟨this, hn.ld _ (by omega)⟩
theorem l6After_rc (m : Mem) (v vn : Value) (p : Pr) (next : List Int) (x y : Int) (n : Nat) (h : ProcA m v p) (hn : IntsA m vn next) (hg : GoodP p) (hl : next.length = 21) (hB : rowIn 30000000000000000 next) (hy : p.may y) (hx : x = (n : Int) + 1) (hn4 : n ≤ 4) :
    RC Try.prog 61 [v, vn, .int .i64 y, .int .i64 x] m (AnsV (.int .i64 (p.after next y n))) := by
  subst hx
  refine rc_of_run mixed ok_spec_l6After (by simp) (go_start _ _ _ ?_)
  obtain ⟨u, rfl, hu⟩ := h.ro
  have hlen := hg.len
  have hpow := hg.pow5 (n := n) (by omega)
  have hfl := hg.floor
  have hy1 := hy.1
  have hy2 := hy.2
  simp (config := {implicitDefEqProofs := false, maxDischargeDepth := 20}) (disch := first | omega | (simp only [lenE]; done) | (simp only [lenE]; omega) | rfl | (simp only [lenE, markR_len]; done) | (simp only [lenE, markR_len]; omega)) only [runE, mapE, listE, initT_5, initT_6, initT_7, initT_8, resV, oneV, binA, unA, reduceCtorEq, Nat.reduceEqDiff, Nat.reduceAdd, Nat.reduceLT, Nat.reduceLeDiff, Nat.reduceMul, Nat.reduceSub, ↓reduceIte, decide_true, decide_false, Bool.true_eq_false, Bool.false_eq_true, Bool.not_true, Bool.not_false, if_true, if_false, and_true, true_and, memE, celE, w64, Nat.zero_add, Nat.add_zero, Nat.mul_one, putL, and_self, ldn, c_spec_l6After, r_spec_l6After]
  refine loop_inv mixed (fun s => ∃ (k : Nat) (M : Mem), k ≤ p.w.length ∧ s.m = M ∧ Ext m M ∧ BoxA M m.length [.int .i64 p.turns, u, .int .i64 p.setup, .int .i64 p.unit, .int .i64 p.hold, .int .i64 p.back] ∧ s.t 1 = vn ∧ s.t 2 = .int .i64 y ∧ s.t 3 = .int .i64 ((n : Int) + 1) ∧ s.t 4 = .pointer (some ⟨m.length, 0, none⟩) ∧ s.t 9 = .int .i64 (wsum p.w (p.part next y n) k) ∧ s.t 10 = .int .i64 k) (fun s => p.w.length - (intOf (s.t 10)).toNat)
    ⟨0, _, by omega, rfl, (Ext.refl m).one _ _, BoxA.here _ _ _ (roM_len m).symm, rfl, rfl, rfl, rfl, rfl, rfl⟩ ?_
  rintro s ⟨k, M, hk, tm, hx, hb, t1, t2, t3, t4, t9, t10⟩
  have hiu := hx.ints hu
  by_cases hlt : k < p.w.length
  · have hlt' : (k : Int) < p.w.length := by omega
    have hin := hn.xt2 hx
    have hd := hy.lv hlt
    obtain ⟨a1, a2⟩ := at_of hin hl (z := y - k + 10) (by omega) (by omega)
    have f1 := hg.part hB hn4 hd.1 hd.2
    have f2 := hg.term hB (by decide) hn4 hd.1 hd.2
    have f3 := hg.wsum hB (by decide) hn4 hy k (by omega)
    have f4 := hg.wsum hB (by decide) hn4 hy (k + 1) (by omega)
    have f5 := hg.kept hd
    rw [wsum_s] at f4
    unfold Pr.part at f1 f2 f4
    simp (config := {implicitDefEqProofs := false, maxDischargeDepth := 20}) (disch := first | omega | (simp only [lenE]; done) | (simp only [lenE]; omega) | rfl | (simp only [lenE, markR_len]; done) | (simp only [lenE, markR_len]; omega)) only [runE, mapE, listE, initT_5, initT_6, initT_7, initT_8, resV, oneV, binA, unA, reduceCtorEq, Nat.reduceEqDiff, Nat.reduceAdd, Nat.reduceLT, Nat.reduceLeDiff, Nat.reduceMul, Nat.reduceSub, ↓reduceIte, decide_true, decide_false, Bool.true_eq_false, Bool.false_eq_true, Bool.not_true, Bool.not_false, if_true, if_false, and_true, true_and, memE, celE, w64, Nat.zero_add, Nat.add_zero, Nat.mul_one, putL, and_self, ldn, tm, t1, t2, t3, t4, t9, t10, hlt', hb.rdk, hiu.len, hiu.at_ k hlt, hiu.ld k hlt, a1, a2]
    refine rcallH_rc (l6Kept_rc M _ p (y - k) (ProcA.mk hiu) hg hd) ?_
    rintro r new ⟨rfl, nr⟩
    have hb2 := hb.ext new
    simp (config := {implicitDefEqProofs := false, maxDischargeDepth := 20}) (disch := first | omega | (simp only [lenE]; done) | (simp only [lenE]; omega) | rfl | (simp only [lenE, markR_len]; done) | (simp only [lenE, markR_len]; omega)) only [runE, mapE, listE, initT_5, initT_6, initT_7, initT_8, resV, oneV, binA, unA, reduceCtorEq, Nat.reduceEqDiff, Nat.reduceAdd, Nat.reduceLT, Nat.reduceLeDiff, Nat.reduceMul, Nat.reduceSub, ↓reduceIte, decide_true, decide_false, Bool.true_eq_false, Bool.false_eq_true, Bool.not_true, Bool.not_false, if_true, if_false, and_true, true_and, memE, celE, w64, Nat.zero_add, Nat.add_zero, Nat.mul_one, putL, and_self, ldn, tm, t1, t2, t3, t4, t9, t10, hb2.rdk]
    refine rcallH_rc (l6Power_rc (M ++ new) _ p _ n (ProcA.mk (hiu.ext new)) hg (by omega) (by omega)) ?_
    rintro r new' ⟨rfl, nr'⟩
    have hb3 := hb2.ext new'
    simp (config := {implicitDefEqProofs := false, maxDischargeDepth := 20}) (disch := first | omega | (simp only [lenE]; done) | (simp only [lenE]; omega) | rfl | (simp only [lenE, markR_len]; done) | (simp only [lenE, markR_len]; omega)) only [runE, mapE, listE, initT_5, initT_6, initT_7, initT_8, resV, oneV, binA, unA, reduceCtorEq, Nat.reduceEqDiff, Nat.reduceAdd, Nat.reduceLT, Nat.reduceLeDiff, Nat.reduceMul, Nat.reduceSub, ↓reduceIte, decide_true, decide_false, Bool.true_eq_false, Bool.false_eq_true, Bool.not_true, Bool.not_false, if_true, if_false, and_true, true_and, memE, celE, w64, Nat.zero_add, Nat.add_zero, Nat.mul_one, putL, and_self, ldn, tm, t1, t2, t3, t4, t9, t10, ldA_ext a2, hb3.rdk]
    refine ⟨⟨k + 1, _, by omega, rfl, (hx.app nr).app nr', hb3, rfl, by simp⟩, ?_⟩
    simp [intOf]; omega
  · have hlt' : ¬ ((k : Int) < p.w.length) := by omega
    have e : k = p.w.length := by omega
    simp (config := {implicitDefEqProofs := false, maxDischargeDepth := 20}) (disch := first | omega | (simp only [lenE]; done) | (simp only [lenE]; omega) | rfl | (simp only [lenE, markR_len]; done) | (simp only [lenE, markR_len]; omega)) only [runE, mapE, listE, initT_5, initT_6, initT_7, initT_8, resV, oneV, binA, unA, reduceCtorEq, Nat.reduceEqDiff, Nat.reduceAdd, Nat.reduceLT, Nat.reduceLeDiff, Nat.reduceMul, Nat.reduceSub, ↓reduceIte, decide_true, decide_false, Bool.true_eq_false, Bool.false_eq_true, Bool.not_true, Bool.not_false, if_true, if_false, and_true, true_and, memE, celE, w64, Nat.zero_add, Nat.add_zero, Nat.mul_one, putL, and_self, ldn, tm, t1, t2, t3, t4, t9, t10, hlt', hb.rdk, hiu.len]
    rw [e]
    exact ext_ansV2 hx
end Go.Proofs.Ytckpfgkgigicpaa.Ab
end
section
namespace Go.Proofs.Ytckpfgkgigicpaa.Ab
open Go Go.RowKit
set_option linter.unusedVariables false
set_option linter.unusedSimpArgs false
theorem pmul_in {p : Pr} (hg : GoodP p) {y : Int} (hy : -10 ≤ y ∧ y ≤ 10) {n : Nat} (hn : n ≤ 5) : -90 ≤ p.unit * y ∧ p.unit * y ≤ 90 ∧ -288000000 ≤ p.unit * y * p.pow n ∧ p.unit * y * p.pow n ≤ 288000000 := by
  have h1 := hg.unit
  have hp := hg.pow5 hn
  rcases Int.le_total 0 y with h | h
  · have a := mul_in' (A := 9) (B := 10) h1 (x := y) (by omega)
    have b := mul_in' (A := 90) (B := 3200000) a (x := p.pow n) (by omega)
    omega
  · have a := mul_in' (A := 9) (B := 10) h1 (x := -y) (by omega)
    have b := mul_in' (A := 90) (B := 3200000) a (x := p.pow n) (by omega)
    rw [Int.mul_neg] at a
    rw [Int.mul_neg, Int.neg_mul] at b
    omega
theorem l6Bill_rc (m : Mem) (v vn : Value) (p : Pr) (next : List Int) (x y : Int) (n : Nat) (h : ProcA m v p) (hn : IntsA m vn next) (hg : GoodP p) (hl : next.length = 21) (hB : rowIn 30000000000000000 next) (hy : p.may y) (hx : x = (n : Int) + 1) (hn4 : n ≤ 4) :
    RC Try.prog 64 [v, vn, .int .i64 y, .int .i64 x] m (AnsV (.int .i64 (p.bill next y n))) := by
  subst hx
  refine rc_of_run mixed ok_spec_l6Bill (by simp) (go_start _ _ _ ?_)
  obtain ⟨u, rfl, hu⟩ := h.ro
  have hfl := hg.floor
  have hy1 := hy.1
  have hy2 := hy.2
  have hm := pmul_in hg (y := y) (by omega) (n := n + 1) (by omega)
  have ha := hg.after hB (by decide) hn4 hy
  simp (config := {implicitDefEqProofs := false, maxDischargeDepth := 20}) (disch := first | omega | (simp only [lenE]; done) | (simp only [lenE]; omega) | rfl | (simp only [lenE, markR_len]; done) | (simp only [lenE, markR_len]; omega)) only [runE, mapE, listE, initT_5, initT_6, initT_7, initT_8, resV, oneV, binA, unA, reduceCtorEq, Nat.reduceEqDiff, Nat.reduceAdd, Nat.reduceLT, Nat.reduceLeDiff, Nat.reduceMul, Nat.reduceSub, ↓reduceIte, decide_true, decide_false, Bool.true_eq_false, Bool.false_eq_true, Bool.not_true, Bool.not_false, if_true, if_false, and_true, true_and, memE, celE, w64, Nat.zero_add, Nat.add_zero, Nat.mul_one, putL, and_self, ldn, c_spec_l6Bill, r_spec_l6Bill]
  refine rcallH_rc (l6Power_rc _ _ p _ (n + 1) (ProcA.mk (hu.ext _)) hg (by omega) (by omega)) ?_
  rintro r new ⟨rfl, nr⟩
  simp (config := {implicitDefEqProofs := false, maxDischargeDepth := 20}) (disch := first | omega | (simp only [lenE]; done) | (simp only [lenE]; omega) | rfl | (simp only [lenE, markR_len]; done) | (simp only [lenE, markR_len]; omega)) only [runE, mapE, listE, initT_5, initT_6, initT_7, initT_8, resV, oneV, binA, unA, reduceCtorEq, Nat.reduceEqDiff, Nat.reduceAdd, Nat.reduceLT, Nat.reduceLeDiff, Nat.reduceMul, Nat.reduceSub, ↓reduceIte, decide_true, decide_false, Bool.true_eq_false, Bool.false_eq_true, Bool.not_true, Bool.not_false, if_true, if_false, and_true, true_and, memE, celE, w64, Nat.zero_add, Nat.add_zero, Nat.mul_one, putL, and_self, ldn]
  refine rcallH_rc (l6After_rc _ _ vn p next _ y n (ProcA.mk ((hu.ext _).ext _)) ((hn.ro.ext _).ext _) hg hl hB hy rfl hn4) ?_
  rintro r new' ⟨rfl, nr'⟩
  simp (config := {implicitDefEqProofs := false, maxDischargeDepth := 20}) (disch := first | omega | (simp only [lenE]; done) | (simp only [lenE]; omega) | rfl | (simp only [lenE, markR_len]; done) | (simp only [lenE, markR_len]; omega)) only [runE, mapE, listE, initT_5, initT_6, initT_7, initT_8, resV, oneV, binA, unA, reduceCtorEq, Nat.reduceEqDiff, Nat.reduceAdd, Nat.reduceLT, Nat.reduceLeDiff, Nat.reduceMul, Nat.reduceSub, ↓reduceIte, decide_true, decide_false, Bool.true_eq_false, Bool.false_eq_true, Bool.not_true, Bool.not_false, if_true, if_false, and_true, true_and, memE, celE, w64, Nat.zero_add, Nat.add_zero, Nat.mul_one, putL, and_self, ldn]
  try simp only [List.append_assoc, List.cons_append, List.nil_append, List.append_nil]
  exact ⟨_, rfl, by (repeat (first | exact noRo_nil | assumption | apply noRo_own | apply noRo_dead | apply noRo_app)), rfl, by (repeat (first | exact noRo_nil | assumption | apply noRo_own | apply noRo_dead | apply noRo_app))⟩
theorem move_bd {p : Pr} (hg : GoodP p) {next : List Int} (hB : rowIn 30000000000000000 next) {x y : Int} {n : Nat} (hn : n ≤ 4) (hx : -10 ≤ x) (hy : p.may y) :
    0 ≤ p.ord x y * p.pow (n + 1) ∧ p.ord x y * p.pow (n + 1) ≤ 892800000 ∧ -700000000000000000 ≤ p.ord x y * p.pow (n + 1) + p.after next y n ∧ p.ord x y * p.pow (n + 1) + p.after next y n ≤ 700000000000000000 := by
  have := hg.move hB (by decide) hn hx hy
  unfold Pr.move at this
  omega
theorem l6Best_rc (m : Mem) (v vn : Value) (p : Pr) (next : List Int) (x z : Int) (n : Nat) (h : ProcA m v p) (hn : IntsA m vn next) (hg : GoodP p) (hl : next.length = 21) (hB : rowIn 30000000000000000 next) (hx : -10 ≤ x ∧ x ≤ 10) (hz : z = (n : Int) + 1) (hn4 : n ≤ 4) :
    RC Try.prog 32 [v, vn, .int .i64 x, .int .i64 z] m (AnsV (.tuple #[.int .i64 (p.up next x n), .int .i64 (p.move next x (p.up next x n) n)])) := by
  subst hz
  refine rc_of_run mixed ok_spec_l6Best (by simp) (go_start _ _ _ ?_)
  obtain ⟨u, rfl, hu⟩ := h.ro
  have hlo := Pr.lo_in hg hx
  have hfl := hg.floor
  simp (config := {implicitDefEqProofs := false, maxDischargeDepth := 20}) (disch := first | omega | (simp only [lenE]; done) | (simp only [lenE]; omega) | rfl | (simp only [lenE, markR_len]; done) | (simp only [lenE, markR_len]; omega)) only [runE, mapE, listE, initT_5, initT_6, initT_7, initT_8, resV, oneV, binA, unA, reduceCtorEq, Nat.reduceEqDiff, Nat.reduceAdd, Nat.reduceLT, Nat.reduceLeDiff, Nat.reduceMul, Nat.reduceSub, ↓reduceIte, decide_true, decide_false, Bool.true_eq_false, Bool.false_eq_true, Bool.not_true, Bool.not_false, if_true, if_false, and_true, true_and, memE, celE, w64, Nat.zero_add, Nat.add_zero, Nat.mul_one, putL, and_self, ldn, c_spec_l6Best, r_spec_l6Best]
  refine loop_inv mixed (fun s => ∃ (y best least : Int) (M : Mem), p.lo x - 1 ≤ y ∧ y ≤ 10 ∧ (y = 10 ∨ (IsLeast (fun y => p.move next x y n) (y + 1) 10 best ∧ least = p.move next x best n)) ∧ s.m = M ∧ Ext m M ∧ BoxA M m.length [.int .i64 p.turns, u, .int .i64 p.setup, .int .i64 p.unit, .int .i64 p.hold, .int .i64 p.back] ∧
      s.t 1 = vn ∧ s.t 2 = .int .i64 x ∧ s.t 3 = .int .i64 ((n : Int) + 1) ∧ s.t 4 = .pointer (some ⟨m.length, 0, none⟩) ∧ s.t 10 = .int .i64 best ∧ s.t 11 = .int .i64 least ∧ s.t 12 = .int .i64 y) (fun s => (intOf (s.t 12) + 20).toNat)
    ⟨10, 0, 0, _, by omega, by omega, .inl rfl, rfl, (Ext.refl m).one _ _, BoxA.here _ _ _ (roM_len m).symm, rfl, rfl, rfl, rfl, rfl, rfl, rfl⟩ ?_
  rintro s ⟨y, best, least, M, hy1, hy2, hbest, tm, hX, hb, t1, t2, t3, t4, t10, t11, t12⟩
  have hiu := hX.ints hu
  simp (config := {implicitDefEqProofs := false, maxDischargeDepth := 20}) (disch := first | omega | (simp only [lenE]; done) | (simp only [lenE]; omega) | rfl | (simp only [lenE, markR_len]; done) | (simp only [lenE, markR_len]; omega)) only [runE, mapE, listE, initT_5, initT_6, initT_7, initT_8, resV, oneV, binA, unA, reduceCtorEq, Nat.reduceEqDiff, Nat.reduceAdd, Nat.reduceLT, Nat.reduceLeDiff, Nat.reduceMul, Nat.reduceSub, ↓reduceIte, decide_true, decide_false, Bool.true_eq_false, Bool.false_eq_true, Bool.not_true, Bool.not_false, if_true, if_false, and_true, true_and, memE, celE, w64, Nat.zero_add, Nat.add_zero, Nat.mul_one, putL, and_self, ldn, tm, t1, t2, t3, t4, t10, t11, t12, hb.rdk]
  refine callH_rc (l6Floor_rc M _ p (ProcA.mk hiu) hg) ?_
  rintro r new ⟨rfl, nr⟩
  simp (config := {implicitDefEqProofs := false, maxDischargeDepth := 20}) (disch := first | omega | (simp only [lenE]; done) | (simp only [lenE]; omega) | rfl | (simp only [lenE, markR_len]; done) | (simp only [lenE, markR_len]; omega)) only [runE, mapE, listE, initT_5, initT_6, initT_7, initT_8, resV, oneV, binA, unA, reduceCtorEq, Nat.reduceEqDiff, Nat.reduceAdd, Nat.reduceLT, Nat.reduceLeDiff, Nat.reduceMul, Nat.reduceSub, ↓reduceIte, decide_true, decide_false, Bool.true_eq_false, Bool.false_eq_true, Bool.not_true, Bool.not_false, if_true, if_false, and_true, true_and, memE, celE, w64, Nat.zero_add, Nat.add_zero, Nat.mul_one, putL, and_self, ldn]
  refine callH_rc (l1Most6_rc _ _ _) ?_
  rintro r new0 ⟨rfl, rfl⟩
  have hX := hX.app nr
  have hb := hb.ext new
  have hiu := hiu.ext new
  obtain ⟨M', hM'⟩ : ∃ M', M' = M ++ new := ⟨_, rfl⟩
  rw [← hM'] at hX hb hiu
  rw [List.append_nil, ← hM']
  rw [show max x p.floor = p.lo x from rfl]
  by_cases hge : p.lo x ≤ y
  · have hmay : p.may y := ⟨by omega, hy2⟩
    have hmv := move_bd hg hB hn4 hx.1 hmay
    simp (config := {implicitDefEqProofs := false, maxDischargeDepth := 20}) (disch := first | omega | (simp only [lenE]; done) | (simp only [lenE]; omega) | rfl | (simp only [lenE, markR_len]; done) | (simp only [lenE, markR_len]; omega)) only [runE, mapE, listE, initT_5, initT_6, initT_7, initT_8, resV, oneV, binA, unA, reduceCtorEq, Nat.reduceEqDiff, Nat.reduceAdd, Nat.reduceLT, Nat.reduceLeDiff, Nat.reduceMul, Nat.reduceSub, ↓reduceIte, decide_true, decide_false, Bool.true_eq_false, Bool.false_eq_true, Bool.not_true, Bool.not_false, if_true, if_false, and_true, true_and, memE, celE, w64, Nat.zero_add, Nat.add_zero, Nat.mul_one, putL, and_self, ldn, ge_iff_le, hge, t1, t2, t3, t4, t10, t11, t12, hb.rdk]
    refine rcallH_rc (l6Order_rc M' _ p x y (ProcA.mk hiu) hg hx (by omega)) ?_
    rintro r n1 ⟨rfl, nr1⟩
    have hb1 := hb.ext n1
    simp (config := {implicitDefEqProofs := false, maxDischargeDepth := 20}) (disch := first | omega | (simp only [lenE]; done) | (simp only [lenE]; omega) | rfl | (simp only [lenE, markR_len]; done) | (simp only [lenE, markR_len]; omega)) only [runE, mapE, listE, initT_5, initT_6, initT_7, initT_8, resV, oneV, binA, unA, reduceCtorEq, Nat.reduceEqDiff, Nat.reduceAdd, Nat.reduceLT, Nat.reduceLeDiff, Nat.reduceMul, Nat.reduceSub, ↓reduceIte, decide_true, decide_false, Bool.true_eq_false, Bool.false_eq_true, Bool.not_true, Bool.not_false, if_true, if_false, and_true, true_and, memE, celE, w64, Nat.zero_add, Nat.add_zero, Nat.mul_one, putL, and_self, ldn, t1, t2, t3, t4, t10, t11, t12, hb1.rdk]
    refine rcallH_rc (l6Power_rc (M' ++ n1) _ p _ (n + 1) (ProcA.mk (hiu.ext _)) hg (by omega) (by omega)) ?_
    rintro r n2 ⟨rfl, nr2⟩
    have hb2 := hb1.ext n2
    simp (config := {implicitDefEqProofs := false, maxDischargeDepth := 20}) (disch := first | omega | (simp only [lenE]; done) | (simp only [lenE]; omega) | rfl | (simp only [lenE, markR_len]; done) | (simp only [lenE, markR_len]; omega)) only [runE, mapE, listE, initT_5, initT_6, initT_7, initT_8, resV, oneV, binA, unA, reduceCtorEq, Nat.reduceEqDiff, Nat.reduceAdd, Nat.reduceLT, Nat.reduceLeDiff, Nat.reduceMul, Nat.reduceSub, ↓reduceIte, decide_true, decide_false, Bool.true_eq_false, Bool.false_eq_true, Bool.not_true, Bool.not_false, if_true, if_false, and_true, true_and, memE, celE, w64, Nat.zero_add, Nat.add_zero, Nat.mul_one, putL, and_self, ldn, t1, t2, t3, t4, t10, t11, t12, hb2.rdk]
    refine rcallH_rc (l6After_rc (M' ++ n1 ++ n2) _ vn p next _ y n (ProcA.mk ((hiu.ext _).ext _)) ((hn.xt2 hX |>.ext _).ext _) hg hl hB hmay rfl hn4) ?_
    rintro r n3 ⟨rfl, nr3⟩
    have hb3 := hb2.ext n3
    have hX3 := ((hX.app nr1).app nr2).app nr3
    have hmv' : p.ord x y * p.pow (n + 1) + p.after next y n = p.move next x y n := rfl
    by_cases h10 : y = 10
    · subst h10
      simp (config := {implicitDefEqProofs := false, maxDischargeDepth := 20}) (disch := first | omega | (simp only [lenE]; done) | (simp only [lenE]; omega) | rfl | (simp only [lenE, markR_len]; done) | (simp only [lenE, markR_len]; omega)) only [runE, mapE, listE, initT_5, initT_6, initT_7, initT_8, resV, oneV, binA, unA, reduceCtorEq, Nat.reduceEqDiff, Nat.reduceAdd, Nat.reduceLT, Nat.reduceLeDiff, Nat.reduceMul, Nat.reduceSub, ↓reduceIte, decide_true, decide_false, Bool.true_eq_false, Bool.false_eq_true, Bool.not_true, Bool.not_false, if_true, if_false, and_true, true_and, memE, celE, w64, Nat.zero_add, Nat.add_zero, Nat.mul_one, putL, and_self, ldn, t1, t2, t3, t4, t10, t11, t12, beq_self_eq_true]
      refine ⟨⟨_, _, _, _, by omega, by omega, .inr ⟨?_, hmv'⟩, rfl, hX3, hb3, rfl, rfl, rfl⟩, ?_⟩
      · simpa using IsLeast.one (fun y => p.move next x y n) 10
      · simp [intOf]
    · have hne : ((y : Int) == 10) = false := by simp [h10]
      rcases hbest with hbest | ⟨hle, hleast⟩
      · exact absurd hbest h10
      · have hd := hle.down
        rw [show y + 1 - 1 = y by omega] at hd
        by_cases hc : p.move next x y n ≤ p.move next x best n
        · rw [if_pos hc] at hd
          have hc' : p.ord x y * p.pow (n + 1) + p.after next y n ≤ least := by rw [hleast, hmv']; exact hc
          simp (config := {implicitDefEqProofs := false, maxDischargeDepth := 20}) (disch := first | omega | (simp only [lenE]; done) | (simp only [lenE]; omega) | rfl | (simp only [lenE, markR_len]; done) | (simp only [lenE, markR_len]; omega)) only [runE, mapE, listE, initT_5, initT_6, initT_7, initT_8, resV, oneV, binA, unA, reduceCtorEq, Nat.reduceEqDiff, Nat.reduceAdd, Nat.reduceLT, Nat.reduceLeDiff, Nat.reduceMul, Nat.reduceSub, ↓reduceIte, decide_true, decide_false, Bool.true_eq_false, Bool.false_eq_true, Bool.not_true, Bool.not_false, if_true, if_false, and_true, true_and, memE, celE, w64, Nat.zero_add, Nat.add_zero, Nat.mul_one, putL, and_self, ldn, t1, t2, t3, t4, t10, t11, t12, hne, hc']
          refine ⟨⟨y - 1, y, _, _, by omega, by omega, .inr ⟨by rw [show y - 1 + 1 = y by omega]; exact hd, hmv'⟩, rfl, hX3, hb3, rfl, rfl, rfl⟩, ?_⟩
          simp [intOf]; omega
        · rw [if_neg hc] at hd
          have hc' : ¬ (p.ord x y * p.pow (n + 1) + p.after next y n ≤ least) := by rw [hleast, hmv']; exact hc
          simp (config := {implicitDefEqProofs := false, maxDischargeDepth := 20}) (disch := first | omega | (simp only [lenE]; done) | (simp only [lenE]; omega) | rfl | (simp only [lenE, markR_len]; done) | (simp only [lenE, markR_len]; omega)) only [runE, mapE, listE, initT_5, initT_6, initT_7, initT_8, resV, oneV, binA, unA, reduceCtorEq, Nat.reduceEqDiff, Nat.reduceAdd, Nat.reduceLT, Nat.reduceLeDiff, Nat.reduceMul, Nat.reduceSub, ↓reduceIte, decide_true, decide_false, Bool.true_eq_false, Bool.false_eq_true, Bool.not_true, Bool.not_false, if_true, if_false, and_true, true_and, memE, celE, w64, Nat.zero_add, Nat.add_zero, Nat.mul_one, putL, and_self, ldn, t1, t2, t3, t4, t10, t11, t12, hne, hc']
          refine ⟨⟨y - 1, best, least, _, by omega, by omega, .inr ⟨by rw [show y - 1 + 1 = y by omega]; exact hd, hleast⟩, rfl, hX3, hb3, rfl, rfl, rfl⟩, ?_⟩
          simp [intOf]; omega
  · rcases hbest with hbest | ⟨hle, hleast⟩
    · omega
    · have e : y + 1 = p.lo x := by omega
      rw [e] at hle
      have e2 := hle.uniq (Pr.up_least hg next hx n)
      simp (config := {implicitDefEqProofs := false, maxDischargeDepth := 20}) (disch := first | omega | (simp only [lenE]; done) | (simp only [lenE]; omega) | rfl | (simp only [lenE, markR_len]; done) | (simp only [lenE, markR_len]; omega)) only [runE, mapE, listE, initT_5, initT_6, initT_7, initT_8, resV, oneV, binA, unA, reduceCtorEq, Nat.reduceEqDiff, Nat.reduceAdd, Nat.reduceLT, Nat.reduceLeDiff, Nat.reduceMul, Nat.reduceSub, ↓reduceIte, decide_true, decide_false, Bool.true_eq_false, Bool.false_eq_true, Bool.not_true, Bool.not_false, if_true, if_false, and_true, true_and, memE, celE, w64, Nat.zero_add, Nat.add_zero, Nat.mul_one, putL, and_self, ldn, ge_iff_le, hge, t1, t2, t3, t4, t10, t11, t12]
      rw [hleast, e2]
      exact ext_ansV2 hX
theorem askedCost_rc (m : Mem) (v vn : Value) (p : Pr) (next : List Int) (x y : Int) (n : Nat) (h : ProcA m v p) (hn : IntsA m vn next) (hg : GoodP p) (hl : next.length = 21) (hB : rowIn 30000000000000000 next) (hy : p.may y) (hx : p.turns - x = (n : Int) + 1) (hx0 : 0 ≤ x) (hn4 : n ≤ 4) :
    RC Try.prog 63 [v, .int .i64 x, .int .i64 y, vn] m (AnsV (.int .i64 (p.after next y n))) := by
  refine rc_of_run mixed ok_impl_askedCost (by simp) (go_start _ _ _ ?_)
  obtain ⟨u, rfl, hu⟩ := h.ro
  have hlen := hg.len
  have ht := hg.turns
  have hpow := hg.pow5 (n := n) (by omega)
  have hfl := hg.floor
  have hy1 := hy.1
  have hy2 := hy.2
  simp (config := {implicitDefEqProofs := false, maxDischargeDepth := 20}) (disch := first | omega | (simp only [lenE]; done) | (simp only [lenE]; omega) | rfl | (simp only [lenE, markR_len]; done) | (simp only [lenE, markR_len]; omega)) only [runE, mapE, listE, initT_5, initT_6, initT_7, initT_8, resV, oneV, binA, unA, reduceCtorEq, Nat.reduceEqDiff, Nat.reduceAdd, Nat.reduceLT, Nat.reduceLeDiff, Nat.reduceMul, Nat.reduceSub, ↓reduceIte, decide_true, decide_false, Bool.true_eq_false, Bool.false_eq_true, Bool.not_true, Bool.not_false, if_true, if_false, and_true, true_and, memE, celE, w64, Nat.zero_add, Nat.add_zero, Nat.mul_one, putL, and_self, ldn, c_impl_askedCost, r_impl_askedCost, hu.len]
  refine loop_inv mixed (fun s => ∃ (k : Nat) (M : Mem), k ≤ p.w.length ∧ s.m = M ∧ Ext m M ∧ BoxA M m.length [.int .i64 p.turns, u, .int .i64 p.setup, .int .i64 p.unit, .int .i64 p.hold, .int .i64 p.back] ∧ s.t 1 = .int .i64 x ∧ s.t 2 = .int .i64 y ∧ s.t 3 = vn ∧ s.t 4 = .pointer (some ⟨m.length, 0, none⟩) ∧ s.t 9 = .int .i64 (wsum p.w (p.part next y n) k) ∧ s.t 13 = u ∧ s.t 14 = .int .i64 p.w.length ∧ s.t 15 = .int .i64 k) (fun s => p.w.length - (intOf (s.t 15)).toNat)
    ⟨0, _, by omega, rfl, (Ext.refl m).one _ _, BoxA.here _ _ _ (roM_len m).symm, rfl, rfl, rfl, rfl, rfl, rfl, rfl, rfl⟩ ?_
  rintro s ⟨k, M, hk, tm, hX, hb, t1, t2, t3, t4, t9, t13, t14, t15⟩
  have hiu := hX.ints hu
  by_cases hlt : k < p.w.length
  · have hlt' : (k : Int) < p.w.length := by omega
    have hin := hn.xt2 hX
    have hd := hy.lv hlt
    obtain ⟨a1, a2⟩ := at_of hin hl (z := y - k + 10) (by omega) (by omega)
    have f1 := hg.part hB hn4 hd.1 hd.2
    have f2 := hg.term hB (by decide) hn4 hd.1 hd.2
    have f3 := hg.wsum hB (by decide) hn4 hy k (by omega)
    have f4 := hg.wsum hB (by decide) hn4 hy (k + 1) (by omega)
    have f5 := hg.kept hd
    rw [wsum_s] at f4
    unfold Pr.part at f1 f2 f4
    simp (config := {implicitDefEqProofs := false, maxDischargeDepth := 20}) (disch := first | omega | (simp only [lenE]; done) | (simp only [lenE]; omega) | rfl | (simp only [lenE, markR_len]; done) | (simp only [lenE, markR_len]; omega)) only [runE, mapE, listE, initT_5, initT_6, initT_7, initT_8, resV, oneV, binA, unA, reduceCtorEq, Nat.reduceEqDiff, Nat.reduceAdd, Nat.reduceLT, Nat.reduceLeDiff, Nat.reduceMul, Nat.reduceSub, ↓reduceIte, decide_true, decide_false, Bool.true_eq_false, Bool.false_eq_true, Bool.not_true, Bool.not_false, if_true, if_false, and_true, true_and, memE, celE, w64, Nat.zero_add, Nat.add_zero, Nat.mul_one, putL, and_self, ldn, tm, t1, t2, t3, t4, t9, t13, t14, t15, hlt', hb.rdk, hiu.len, hiu.at_ k hlt, hiu.ld k hlt]
    refine rcallH_rc (levelCost_rc M _ p (y - k) (ProcA.mk hiu) hg hd) ?_
    rintro r new ⟨rfl, nr⟩
    have hb2 := hb.ext new
    simp (config := {implicitDefEqProofs := false, maxDischargeDepth := 20}) (disch := first | omega | (simp only [lenE]; done) | (simp only [lenE]; omega) | rfl | (simp only [lenE, markR_len]; done) | (simp only [lenE, markR_len]; omega)) only [runE, mapE, listE, initT_5, initT_6, initT_7, initT_8, resV, oneV, binA, unA, reduceCtorEq, Nat.reduceEqDiff, Nat.reduceAdd, Nat.reduceLT, Nat.reduceLeDiff, Nat.reduceMul, Nat.reduceSub, ↓reduceIte, decide_true, decide_false, Bool.true_eq_false, Bool.false_eq_true, Bool.not_true, Bool.not_false, if_true, if_false, and_true, true_and, memE, celE, w64, Nat.zero_add, Nat.add_zero, Nat.mul_one, putL, and_self, ldn, tm, t1, t2, t3, t4, t9, t15, hb2.rdk]
    refine rcallH_rc (powerFrom_rc (M ++ new) _ p _ n (ProcA.mk (hiu.ext new)) hg (by omega) (by omega)) ?_
    rintro r new' ⟨rfl, nr'⟩
    have hb3 := hb2.ext new'
    simp (config := {implicitDefEqProofs := false, maxDischargeDepth := 20}) (disch := first | omega | (simp only [lenE]; done) | (simp only [lenE]; omega) | rfl | (simp only [lenE, markR_len]; done) | (simp only [lenE, markR_len]; omega)) only [runE, mapE, listE, initT_5, initT_6, initT_7, initT_8, resV, oneV, binA, unA, reduceCtorEq, Nat.reduceEqDiff, Nat.reduceAdd, Nat.reduceLT, Nat.reduceLeDiff, Nat.reduceMul, Nat.reduceSub, ↓reduceIte, decide_true, decide_false, Bool.true_eq_false, Bool.false_eq_true, Bool.not_true, Bool.not_false, if_true, if_false, and_true, true_and, memE, celE, w64, Nat.zero_add, Nat.add_zero, Nat.mul_one, putL, and_self, ldn, tm, t1, t2, t3, t4, t9, t15, hb3.rdk]
    refine rcallH_rc (placeOf_rc (M ++ new ++ new') _ hd) ?_
    rintro r n2 ⟨rfl, rfl⟩
    simp (config := {implicitDefEqProofs := false, maxDischargeDepth := 20}) (disch := first | omega | (simp only [lenE]; done) | (simp only [lenE]; omega) | rfl | (simp only [lenE, markR_len]; done) | (simp only [lenE, markR_len]; omega)) only [runE, mapE, listE, initT_5, initT_6, initT_7, initT_8, resV, oneV, binA, unA, reduceCtorEq, Nat.reduceEqDiff, Nat.reduceAdd, Nat.reduceLT, Nat.reduceLeDiff, Nat.reduceMul, Nat.reduceSub, ↓reduceIte, decide_true, decide_false, Bool.true_eq_false, Bool.false_eq_true, Bool.not_true, Bool.not_false, if_true, if_false, and_true, true_and, memE, celE, w64, Nat.zero_add, Nat.add_zero, Nat.mul_one, putL, and_self, ldn, tm, t1, t2, t3, t4, t9, t13, t14, t15, a1, ldA_ext (ldA_ext a2)]
    refine ⟨⟨k + 1, _, by omega, rfl, (hX.app nr).app nr', hb3, rfl, by simp⟩, ?_⟩
    simp [intOf]; omega
  · have hlt' : ¬ ((k : Int) < p.w.length) := by omega
    have e : k = p.w.length := by omega
    simp (config := {implicitDefEqProofs := false, maxDischargeDepth := 20}) (disch := first | omega | (simp only [lenE]; done) | (simp only [lenE]; omega) | rfl | (simp only [lenE, markR_len]; done) | (simp only [lenE, markR_len]; omega)) only [runE, mapE, listE, initT_5, initT_6, initT_7, initT_8, resV, oneV, binA, unA, reduceCtorEq, Nat.reduceEqDiff, Nat.reduceAdd, Nat.reduceLT, Nat.reduceLeDiff, Nat.reduceMul, Nat.reduceSub, ↓reduceIte, decide_true, decide_false, Bool.true_eq_false, Bool.false_eq_true, Bool.not_true, Bool.not_false, if_true, if_false, and_true, true_and, memE, celE, w64, Nat.zero_add, Nat.add_zero, Nat.mul_one, putL, and_self, ldn, tm, t1, t2, t3, t4, t9, t13, t14, t15, hlt']
    rw [e]
    exact ext_ansV2 hX
abbrev moveV (t x y : Int) : Value := .agg #[.int .i64 t, .int .i64 x, .int .i64 y]
theorem moveCost_rc (m : Mem) (v vn : Value) (p : Pr) (next : List Int) (t x y : Int) (n : Nat) (h : ProcA m v p) (hn : IntsA m vn next) (hg : GoodP p) (hl : next.length = 21) (hB : rowIn 30000000000000000 next) (hx : -10 ≤ x ∧ x ≤ 10) (hy : p.may y) (hxy : x ≤ y) (ht : p.turns - t = (n : Int) + 1) (ht0 : 0 ≤ t) (hn4 : n ≤ 4) :
    RC Try.prog 54 [v, moveV t x y, vn] m (AnsV (.int .i64 (p.move next x y n))) := by
  refine rc_of_run mixed ok_impl_moveCost (by simp) (go_start _ _ _ ?_)
  obtain ⟨u, rfl, hu⟩ := h.ro
  have hmv := move_bd hg hB hn4 hx.1 hy
  simp (config := {implicitDefEqProofs := false, maxDischargeDepth := 20}) (disch := first | omega | (simp only [lenE]; done) | (simp only [lenE]; omega) | rfl | (simp only [lenE, markR_len]; done) | (simp only [lenE, markR_len]; omega)) only [runE, mapE, listE, initT_5, initT_6, initT_7, initT_8, resV, oneV, binA, unA, reduceCtorEq, Nat.reduceEqDiff, Nat.reduceAdd, Nat.reduceLT, Nat.reduceLeDiff, Nat.reduceMul, Nat.reduceSub, ↓reduceIte, decide_true, decide_false, Bool.true_eq_false, Bool.false_eq_true, Bool.not_true, Bool.not_false, if_true, if_false, and_true, true_and, memE, celE, w64, Nat.zero_add, Nat.add_zero, Nat.mul_one, putL, and_self, ldn, c_impl_moveCost, r_impl_moveCost]
  refine rcallH_rc (liftCost_rc _ _ p x y (ProcA.mk ((hu.ext _).ext _)) hg hx hy.2 hxy) ?_
  rintro r n1 ⟨rfl, nr1⟩
  simp (config := {implicitDefEqProofs := false, maxDischargeDepth := 20}) (disch := first | omega | (simp only [lenE]; done) | (simp only [lenE]; omega) | rfl | (simp only [lenE, markR_len]; done) | (simp only [lenE, markR_len]; omega)) only [runE, mapE, listE, initT_5, initT_6, initT_7, initT_8, resV, oneV, binA, unA, reduceCtorEq, Nat.reduceEqDiff, Nat.reduceAdd, Nat.reduceLT, Nat.reduceLeDiff, Nat.reduceMul, Nat.reduceSub, ↓reduceIte, decide_true, decide_false, Bool.true_eq_false, Bool.false_eq_true, Bool.not_true, Bool.not_false, if_true, if_false, and_true, true_and, memE, celE, w64, Nat.zero_add, Nat.add_zero, Nat.mul_one, putL, and_self, ldn]
  refine rcallH_rc (powerFrom_rc _ _ p t (n + 1) (ProcA.mk (((hu.ext _).ext _).ext _)) hg (by omega) (by omega)) ?_
  rintro r n2 ⟨rfl, nr2⟩
  simp (config := {implicitDefEqProofs := false, maxDischargeDepth := 20}) (disch := first | omega | (simp only [lenE]; done) | (simp only [lenE]; omega) | rfl | (simp only [lenE, markR_len]; done) | (simp only [lenE, markR_len]; omega)) only [runE, mapE, listE, initT_5, initT_6, initT_7, initT_8, resV, oneV, binA, unA, reduceCtorEq, Nat.reduceEqDiff, Nat.reduceAdd, Nat.reduceLT, Nat.reduceLeDiff, Nat.reduceMul, Nat.reduceSub, ↓reduceIte, decide_true, decide_false, Bool.true_eq_false, Bool.false_eq_true, Bool.not_true, Bool.not_false, if_true, if_false, and_true, true_and, memE, celE, w64, Nat.zero_add, Nat.add_zero, Nat.mul_one, putL, and_self, ldn]
  refine rcallH_rc (askedCost_rc _ _ vn p next t y n (ProcA.mk ((((hu.ext _).ext _).ext _).ext _)) ((((hn.ro.ext _).ext _).ext _).ext _) hg hl hB hy ht ht0 hn4) ?_
  rintro r n3 ⟨rfl, nr3⟩
  simp (config := {implicitDefEqProofs := false, maxDischargeDepth := 20}) (disch := first | omega | (simp only [lenE]; done) | (simp only [lenE]; omega) | rfl | (simp only [lenE, markR_len]; done) | (simp only [lenE, markR_len]; omega)) only [runE, mapE, listE, initT_5, initT_6, initT_7, initT_8, resV, oneV, binA, unA, reduceCtorEq, Nat.reduceEqDiff, Nat.reduceAdd, Nat.reduceLT, Nat.reduceLeDiff, Nat.reduceMul, Nat.reduceSub, ↓reduceIte, decide_true, decide_false, Bool.true_eq_false, Bool.false_eq_true, Bool.not_true, Bool.not_false, if_true, if_false, and_true, true_and, memE, celE, w64, Nat.zero_add, Nat.add_zero, Nat.mul_one, putL, and_self, ldn]
  try simp only [List.append_assoc, List.cons_append, List.nil_append, List.append_nil]
  exact ⟨_, rfl, by (repeat (first | exact noRo_nil | assumption | apply noRo_own | apply noRo_dead | apply noRo_app)), rfl, by (repeat (first | exact noRo_nil | assumption | apply noRo_own | apply noRo_dead | apply noRo_app))⟩
theorem bld_move (t x y : Int) : bldA [.int .i64 0, .int .i64 0, .int .i64 0] [(0, 1, .int .i64 t), (1, 1, .int .i64 x), (2, 1, .int .i64 y)] = some (.agg #[.int .i64 t, .int .i64 x, .int .i64 y]) := rfl
theorem bestMove_rc (m : Mem) (v vn : Value) (p : Pr) (next : List Int) (t x : Int) (n : Nat) (h : ProcA m v p) (hn : IntsA m vn next) (hg : GoodP p) (hl : next.length = 21) (hB : rowIn 30000000000000000 next) (hx : -10 ≤ x ∧ x ≤ 10) (ht : p.turns - t = (n : Int) + 1) (ht0 : 0 ≤ t) (hn4 : n ≤ 4) :
    RC Try.prog 28 [v, .int .i64 t, .int .i64 x, vn] m (AnsV (moveV t x (p.up next x n))) := by
  refine rc_of_run mixed ok_impl_bestMove (by simp) (go_start _ _ _ ?_)
  obtain ⟨u, rfl, hu⟩ := h.ro
  have hlo := Pr.lo_in hg hx
  have hfl := hg.floor
  have hlen := hg.len
  have hup := Pr.up_least hg next hx n
  simp (config := {implicitDefEqProofs := false, maxDischargeDepth := 20}) (disch := first | omega | (simp only [lenE]; done) | (simp only [lenE]; omega) | rfl | (simp only [lenE, markR_len]; done) | (simp only [lenE, markR_len]; omega)) only [runE, mapE, listE, initT_5, initT_6, initT_7, initT_8, resV, oneV, binA, unA, reduceCtorEq, Nat.reduceEqDiff, Nat.reduceAdd, Nat.reduceLT, Nat.reduceLeDiff, Nat.reduceMul, Nat.reduceSub, ↓reduceIte, decide_true, decide_false, Bool.true_eq_false, Bool.false_eq_true, Bool.not_true, Bool.not_false, if_true, if_false, and_true, true_and, memE, celE, w64, Nat.zero_add, Nat.add_zero, Nat.mul_one, putL, and_self, ldn, c_impl_bestMove, r_impl_bestMove]
  refine callH_rc (floorOf_rc _ _ p (ProcA.mk ((hu.ext _).ext _)) hlen.2) ?_
  rintro r new ⟨rfl, nr⟩
  simp (config := {implicitDefEqProofs := false, maxDischargeDepth := 20}) (disch := first | omega | (simp only [lenE]; done) | (simp only [lenE]; omega) | rfl | (simp only [lenE, markR_len]; done) | (simp only [lenE, markR_len]; omega)) only [runE, mapE, listE, initT_5, initT_6, initT_7, initT_8, resV, oneV, binA, unA, reduceCtorEq, Nat.reduceEqDiff, Nat.reduceAdd, Nat.reduceLT, Nat.reduceLeDiff, Nat.reduceMul, Nat.reduceSub, ↓reduceIte, decide_true, decide_false, Bool.true_eq_false, Bool.false_eq_true, Bool.not_true, Bool.not_false, if_true, if_false, and_true, true_and, memE, celE, w64, Nat.zero_add, Nat.add_zero, Nat.mul_one, putL, and_self, ldn, bld_move]
  rw [show max x p.floor = p.lo x from rfl]
  have hX : Ext m (roM m ++ [⟨.own, 26, [.int .i64 p.turns, u, .int .i64 p.setup, .int .i64 p.unit, .int .i64 p.hold, .int .i64 p.back]⟩] ++ [⟨.own, 60, [.int .i64 0, .int .i64 0, .int .i64 0]⟩] ++ new ++ [⟨.own, 60, [.int .i64 t, .int .i64 x, .int .i64 (p.lo x)]⟩]) := ((((Ext.refl m).one _ _).one _ _).app nr).one _ _
  obtain ⟨M, hM⟩ : ∃ M', M' = roM m ++ [⟨.own, 26, [.int .i64 p.turns, u, .int .i64 p.setup, .int .i64 p.unit, .int .i64 p.hold, .int .i64 p.back]⟩] ++ [⟨.own, 60, [.int .i64 0, .int .i64 0, .int .i64 0]⟩] ++ new ++ [⟨.own, 60, [.int .i64 t, .int .i64 x, .int .i64 (p.lo x)]⟩] := ⟨_, rfl⟩
  have hb1 : OwnB M m.length 26 [.int .i64 p.turns, u, .int .i64 p.setup, .int .i64 p.unit, .int .i64 p.hold, .int .i64 p.back] := by
    rw [hM]; exact (((OwnB.here (roM_len m).symm).ext _).ext _).ext _
  have hb2 : OwnB M (m.length + 1) 60 [.int .i64 0, .int .i64 0, .int .i64 0] := by
    rw [hM]; exact ((OwnB.here (by simp [roM_len])).ext _).ext _
  have hb3 : OwnB M (m.length + 1 + 1 + new.length) 60 [.int .i64 t, .int .i64 x, .int .i64 (p.lo x)] := by
    rw [hM]; exact OwnB.here (by simp [roM_len]; omega)
  try rw [← hM]
  rw [← hM] at hX
  refine callH_rc (moveCost_rc M _ vn p next t x (p.lo x) n (ProcA.mk (hX.ints hu)) (hn.xt2 hX) hg hl hB hx ⟨by omega, by omega⟩ hlo.1 ht ht0 hn4) ?_
  rintro r n2 ⟨rfl, nr2⟩
  have hb3' := hb3.ext n2
  simp (config := {implicitDefEqProofs := false, maxDischargeDepth := 20}) (disch := first | omega | (simp only [lenE]; done) | (simp only [lenE]; omega) | rfl | (simp only [lenE, markR_len]; done) | (simp only [lenE, markR_len]; omega)) only [runE, mapE, listE, initT_5, initT_6, initT_7, initT_8, resV, oneV, binA, unA, reduceCtorEq, Nat.reduceEqDiff, Nat.reduceAdd, Nat.reduceLT, Nat.reduceLeDiff, Nat.reduceMul, Nat.reduceSub, ↓reduceIte, decide_true, decide_false, Bool.true_eq_false, Bool.false_eq_true, Bool.not_true, Bool.not_false, if_true, if_false, and_true, true_and, memE, celE, w64, Nat.zero_add, Nat.add_zero, Nat.mul_one, putL, and_self, ldn, hb3'.rd]
  refine loop_inv mixed (fun s => ∃ (k : Nat) (b least : Int) (M : Mem), p.lo x + k ≤ 10 ∧ IsLeast (fun y => p.move next x y n) (p.lo x) (p.lo x + k) b ∧ least = p.move next x b n ∧ s.m = M ∧ Ext m M ∧ OwnB M m.length 26 [.int .i64 p.turns, u, .int .i64 p.setup, .int .i64 p.unit, .int .i64 p.hold, .int .i64 p.back] ∧
      OwnB M (m.length + 1) 60 [.int .i64 0, .int .i64 0, .int .i64 0] ∧ OwnB M (m.length + 1 + 1 + new.length) 60 [.int .i64 t, .int .i64 x, .int .i64 b] ∧
      s.t 1 = .int .i64 t ∧ s.t 2 = .int .i64 x ∧ s.t 3 = vn ∧ s.t 4 = .pointer (some ⟨m.length, 0, none⟩) ∧ s.t 8 = .pointer (some ⟨m.length + 1, 0, none⟩) ∧ s.t 9 = .pointer (some ⟨m.length + 1 + 1 + new.length, 0, none⟩) ∧ s.t 10 = .int .i64 least ∧ s.t 11 = .int .i64 (p.lo x + k + 1)) (fun s => (20 - intOf (s.t 11)).toNat)
    ⟨0, p.lo x, _, _, by omega, by simpa using IsLeast.one (fun y => p.move next x y n) (p.lo x), rfl, rfl, hX.app nr2, hb1.ext _, hb2.ext _, hb3.ext _, rfl, rfl, rfl, rfl, rfl, rfl, rfl, by simp only [put_t, put_t', put_m, putT_t, putT_t', putT_m, init_t, init_m, initT_0, initT_1, initT_2, initT_3, initT_4, initT_5, initT_6, initT_7, initT_8, Nat.reduceEqDiff, ↓reduceIte]; simp⟩ ?_
  rintro s ⟨k, b, least, M, hk, hle, hleast, tm, hX, hb1, hb2, hb3, t1, t2, t3, t4, t8, t9, t10, t11⟩
  by_cases hlt : p.lo x + k + 1 ≤ 10
  · have hmay : p.may (p.lo x + k + 1) := ⟨by omega, hlt⟩
    obtain ⟨M2, hM2⟩ : ∃ M', M' = M ++ [⟨.own, 60, [.int .i64 t, .int .i64 x, .int .i64 (p.lo x + k + 1)]⟩] := ⟨_, rfl⟩
    have hX2 : Ext m M2 := by rw [hM2]; exact hX.one _ _
    have hc1 : OwnB M2 m.length 26 [.int .i64 p.turns, u, .int .i64 p.setup, .int .i64 p.unit, .int .i64 p.hold, .int .i64 p.back] := by rw [hM2]; exact hb1.ext _
    have hc2 : OwnB M2 (m.length + 1) 60 [.int .i64 0, .int .i64 0, .int .i64 0] := by rw [hM2]; exact hb2.ext _
    have hc3 : OwnB M2 (m.length + 1 + 1 + new.length) 60 [.int .i64 t, .int .i64 x, .int .i64 b] := by rw [hM2]; exact hb3.ext _
    have hc4 : OwnB M2 M.length 60 [.int .i64 t, .int .i64 x, .int .i64 (p.lo x + k + 1)] := by rw [hM2]; exact OwnB.here rfl
    simp (config := {implicitDefEqProofs := false, maxDischargeDepth := 20}) (disch := first | omega | (simp only [lenE]; done) | (simp only [lenE]; omega) | rfl | (simp only [lenE, markR_len]; done) | (simp only [lenE, markR_len]; omega)) only [runE, mapE, listE, initT_5, initT_6, initT_7, initT_8, resV, oneV, binA, unA, reduceCtorEq, Nat.reduceEqDiff, Nat.reduceAdd, Nat.reduceLT, Nat.reduceLeDiff, Nat.reduceMul, Nat.reduceSub, ↓reduceIte, decide_true, decide_false, Bool.true_eq_false, Bool.false_eq_true, Bool.not_true, Bool.not_false, if_true, if_false, and_true, true_and, memE, celE, w64, Nat.zero_add, Nat.add_zero, Nat.mul_one, putL, and_self, ldn, tm, t1, t2, t3, t4, t8, t9, t10, t11, hlt, bld_move, hb1.rd]
    try rw [← hM2]
    simp (config := {implicitDefEqProofs := false, maxDischargeDepth := 20}) (disch := first | omega | (simp only [lenE]; done) | (simp only [lenE]; omega) | rfl | (simp only [lenE, markR_len]; done) | (simp only [lenE, markR_len]; omega)) only [runE, mapE, listE, initT_5, initT_6, initT_7, initT_8, resV, oneV, binA, unA, reduceCtorEq, Nat.reduceEqDiff, Nat.reduceAdd, Nat.reduceLT, Nat.reduceLeDiff, Nat.reduceMul, Nat.reduceSub, ↓reduceIte, decide_true, decide_false, Bool.true_eq_false, Bool.false_eq_true, Bool.not_true, Bool.not_false, if_true, if_false, and_true, true_and, memE, celE, w64, Nat.zero_add, Nat.add_zero, Nat.mul_one, putL, and_self, ldn, t1, t2, t3, t4, t8, t9, t10, t11, hc1.rd, hc4.rd]
    refine callH_rc (moveCost_rc M2 _ vn p next t x _ n (ProcA.mk (hX2.ints hu)) (hn.xt2 hX2) hg hl hB hx hmay (by omega) ht ht0 hn4) ?_
    rintro r n2 ⟨rfl, nr2⟩
    have hd := hle.up
    have hX3 := hX2.app nr2
    have hl2 := hX2.len
    by_cases hc : p.move next x (p.lo x + k + 1) n < p.move next x b n
    · rw [if_pos hc] at hd
      have hc' : p.move next x (p.lo x + k + 1) n < least := by rw [hleast]; exact hc
      have hst := (hc3.ext n2).st (off := 0) (vs := [.int .i64 t, .int .i64 x, .int .i64 (p.lo x + k + 1)]) (by simp) rfl
      have hrd := (hc4.ext n2).rd
      simp (config := {implicitDefEqProofs := false, maxDischargeDepth := 20}) (disch := first | omega | (simp only [lenE]; done) | (simp only [lenE]; omega) | rfl | (simp only [lenE, markR_len]; done) | (simp only [lenE, markR_len]; omega)) only [runE, mapE, listE, initT_5, initT_6, initT_7, initT_8, resV, oneV, binA, unA, reduceCtorEq, Nat.reduceEqDiff, Nat.reduceAdd, Nat.reduceLT, Nat.reduceLeDiff, Nat.reduceMul, Nat.reduceSub, ↓reduceIte, decide_true, decide_false, Bool.true_eq_false, Bool.false_eq_true, Bool.not_true, Bool.not_false, if_true, if_false, and_true, true_and, memE, celE, w64, Nat.zero_add, Nat.add_zero, Nat.mul_one, putL, and_self, ldn, t1, t2, t3, t4, t8, t9, t10, t11, hc', hrd, hst]
      refine ⟨⟨k + 1, p.lo x + k + 1, _, _, by omega, by rw [Int.natCast_add, ← Int.add_assoc]; exact hd, rfl, rfl, hX3.put (by omega) _ _, OwnB.set_ne (hc1.ext n2) (by omega) _, OwnB.set_ne (hc2.ext n2) (by omega) _, (hc3.ext n2).set_self _ _, rfl, by congr 1; simp; omega⟩, ?_⟩
      simp [intOf]; omega
    · rw [if_neg hc] at hd
      have hc' : ¬ (p.move next x (p.lo x + k + 1) n < least) := by rw [hleast]; exact hc
      simp (config := {implicitDefEqProofs := false, maxDischargeDepth := 20}) (disch := first | omega | (simp only [lenE]; done) | (simp only [lenE]; omega) | rfl | (simp only [lenE, markR_len]; done) | (simp only [lenE, markR_len]; omega)) only [runE, mapE, listE, initT_5, initT_6, initT_7, initT_8, resV, oneV, binA, unA, reduceCtorEq, Nat.reduceEqDiff, Nat.reduceAdd, Nat.reduceLT, Nat.reduceLeDiff, Nat.reduceMul, Nat.reduceSub, ↓reduceIte, decide_true, decide_false, Bool.true_eq_false, Bool.false_eq_true, Bool.not_true, Bool.not_false, if_true, if_false, and_true, true_and, memE, celE, w64, Nat.zero_add, Nat.add_zero, Nat.mul_one, putL, and_self, ldn, t1, t2, t3, t4, t8, t9, t10, t11, hc']
      refine ⟨⟨k + 1, b, least, _, by omega, by rw [Int.natCast_add, ← Int.add_assoc]; exact hd, hleast, rfl, hX3, hc1.ext _, hc2.ext _, hc3.ext _, rfl, by congr 1; simp; omega⟩, ?_⟩
      simp [intOf]; omega
  · have e : p.lo x + k = 10 := by omega
    rw [e] at hle
    have e2 := hle.uniq hup
    have hst := hb2.st (off := 0) (vs := [.int .i64 t, .int .i64 x, .int .i64 b]) (by simp) rfl
    have hrd := ((hb2.set_self 60 [.int .i64 t, .int .i64 x, .int .i64 b])).rd
    simp (config := {implicitDefEqProofs := false, maxDischargeDepth := 20}) (disch := first | omega | (simp only [lenE]; done) | (simp only [lenE]; omega) | rfl | (simp only [lenE, markR_len]; done) | (simp only [lenE, markR_len]; omega)) only [runE, mapE, listE, initT_5, initT_6, initT_7, initT_8, resV, oneV, binA, unA, reduceCtorEq, Nat.reduceEqDiff, Nat.reduceAdd, Nat.reduceLT, Nat.reduceLeDiff, Nat.reduceMul, Nat.reduceSub, ↓reduceIte, decide_true, decide_false, Bool.true_eq_false, Bool.false_eq_true, Bool.not_true, Bool.not_false, if_true, if_false, and_true, true_and, memE, celE, w64, Nat.zero_add, Nat.add_zero, Nat.mul_one, putL, and_self, ldn, tm, t1, t2, t3, t4, t8, t9, t10, t11, hlt, hb3.rd, hst, hrd]
    rw [e2]
    exact ext_ansV2 (hX.put (id := m.length + 1) (by omega) _ _)
end Go.Proofs.Ytckpfgkgigicpaa.Ab
end
section
namespace Go.Proofs.Ytckpfgkgigicpaa.Ab
open Go Go.RowKit
set_option linter.unusedVariables false
set_option linter.unusedSimpArgs false
theorem isNear_rc (m : Mem) (x most : Int) (h : 0 ≤ most ∧ most ≤ 1000000000000) : RC Try.prog 52 [.int .i64 x, .int .i64 most] m fun r new => r = .bool (decide (-most ≤ x) && decide (x ≤ most)) ∧ new = [] := by
  refine rc_of_run mixed ok_impl_isNear (by simp) (go_start _ _ _ ?_)
  by_cases h1 : -most ≤ x
  · have h1' : 0 - most ≤ x := by omega
    by_cases h2 : x ≤ most
    · simp (config := {implicitDefEqProofs := false, maxDischargeDepth := 20}) (disch := first | omega | (simp only [lenE]; done) | (simp only [lenE]; omega) | rfl | (simp only [lenE, markR_len]; done) | (simp only [lenE, markR_len]; omega)) only [runE, mapE, listE, initT_5, initT_6, initT_7, initT_8, resV, oneV, binA, unA, reduceCtorEq, Nat.reduceEqDiff, Nat.reduceAdd, Nat.reduceLT, Nat.reduceLeDiff, Nat.reduceMul, Nat.reduceSub, ↓reduceIte, decide_true, decide_false, Bool.true_eq_false, Bool.false_eq_true, Bool.not_true, Bool.not_false, if_true, if_false, and_true, true_and, memE, celE, w64, Nat.zero_add, Nat.add_zero, Nat.mul_one, putL, and_self, ldn, c_impl_isNear, r_impl_isNear, h1', h2, ge_iff_le]
      exact newQ_nil ⟨by simp [h1], rfl⟩
    · simp (config := {implicitDefEqProofs := false, maxDischargeDepth := 20}) (disch := first | omega | (simp only [lenE]; done) | (simp only [lenE]; omega) | rfl | (simp only [lenE, markR_len]; done) | (simp only [lenE, markR_len]; omega)) only [runE, mapE, listE, initT_5, initT_6, initT_7, initT_8, resV, oneV, binA, unA, reduceCtorEq, Nat.reduceEqDiff, Nat.reduceAdd, Nat.reduceLT, Nat.reduceLeDiff, Nat.reduceMul, Nat.reduceSub, ↓reduceIte, decide_true, decide_false, Bool.true_eq_false, Bool.false_eq_true, Bool.not_true, Bool.not_false, if_true, if_false, and_true, true_and, memE, celE, w64, Nat.zero_add, Nat.add_zero, Nat.mul_one, putL, and_self, ldn, c_impl_isNear, r_impl_isNear, h1', h2, ge_iff_le]
      exact newQ_nil ⟨by simp, rfl⟩
  · have h1' : ¬ (0 - most ≤ x) := by omega
    simp (config := {implicitDefEqProofs := false, maxDischargeDepth := 20}) (disch := first | omega | (simp only [lenE]; done) | (simp only [lenE]; omega) | rfl | (simp only [lenE, markR_len]; done) | (simp only [lenE, markR_len]; omega)) only [runE, mapE, listE, initT_5, initT_6, initT_7, initT_8, resV, oneV, binA, unA, reduceCtorEq, Nat.reduceEqDiff, Nat.reduceAdd, Nat.reduceLT, Nat.reduceLeDiff, Nat.reduceMul, Nat.reduceSub, ↓reduceIte, decide_true, decide_false, Bool.true_eq_false, Bool.false_eq_true, Bool.not_true, Bool.not_false, if_true, if_false, and_true, true_and, memE, celE, w64, Nat.zero_add, Nat.add_zero, Nat.mul_one, putL, and_self, ldn, c_impl_isNear, r_impl_isNear, h1', ge_iff_le]
    exact newQ_nil ⟨by simp [h1], rfl⟩
theorem isLevel_rc (m : Mem) (x : Int) : RC Try.prog 27 [.int .i64 x] m fun r new => r = .bool (levB x) ∧ new = [] := by
  refine rc_of_run mixed ok_impl_isLevel (by simp) (go_start _ _ _ ?_)
  simp (config := {implicitDefEqProofs := false, maxDischargeDepth := 20}) (disch := first | omega | (simp only [lenE]; done) | (simp only [lenE]; omega) | rfl | (simp only [lenE, markR_len]; done) | (simp only [lenE, markR_len]; omega)) only [runE, mapE, listE, initT_5, initT_6, initT_7, initT_8, resV, oneV, binA, unA, reduceCtorEq, Nat.reduceEqDiff, Nat.reduceAdd, Nat.reduceLT, Nat.reduceLeDiff, Nat.reduceMul, Nat.reduceSub, ↓reduceIte, decide_true, decide_false, Bool.true_eq_false, Bool.false_eq_true, Bool.not_true, Bool.not_false, if_true, if_false, and_true, true_and, memE, celE, w64, Nat.zero_add, Nat.add_zero, Nat.mul_one, putL, and_self, ldn, c_impl_isLevel, r_impl_isLevel]
  refine callH_rc (isNear_rc _ x 10 (by decide)) ?_
  rintro r new ⟨rfl, rfl⟩
  simp (config := {implicitDefEqProofs := false, maxDischargeDepth := 20}) (disch := first | omega | (simp only [lenE]; done) | (simp only [lenE]; omega) | rfl | (simp only [lenE, markR_len]; done) | (simp only [lenE, markR_len]; omega)) only [runE, mapE, listE, initT_5, initT_6, initT_7, initT_8, resV, oneV, binA, unA, reduceCtorEq, Nat.reduceEqDiff, Nat.reduceAdd, Nat.reduceLT, Nat.reduceLeDiff, Nat.reduceMul, Nat.reduceSub, ↓reduceIte, decide_true, decide_false, Bool.true_eq_false, Bool.false_eq_true, Bool.not_true, Bool.not_false, if_true, if_false, and_true, true_and, memE, celE, w64, Nat.zero_add, Nat.add_zero, Nat.mul_one, putL, and_self, ldn]
  exact newQ_nil ⟨rfl, rfl⟩
theorem l6Level_rc (m : Mem) (x : Int) : RC Try.prog 31 [.int .i64 x] m fun r new => r = .bool (levB x) ∧ new = [] := by
  refine rc_of_run mixed ok_spec_l6Level (by simp) (go_start _ _ _ ?_)
  simp (config := {implicitDefEqProofs := false, maxDischargeDepth := 20}) (disch := first | omega | (simp only [lenE]; done) | (simp only [lenE]; omega) | rfl | (simp only [lenE, markR_len]; done) | (simp only [lenE, markR_len]; omega)) only [runE, mapE, listE, initT_5, initT_6, initT_7, initT_8, resV, oneV, binA, unA, reduceCtorEq, Nat.reduceEqDiff, Nat.reduceAdd, Nat.reduceLT, Nat.reduceLeDiff, Nat.reduceMul, Nat.reduceSub, ↓reduceIte, decide_true, decide_false, Bool.true_eq_false, Bool.false_eq_true, Bool.not_true, Bool.not_false, if_true, if_false, and_true, true_and, memE, celE, w64, Nat.zero_add, Nat.add_zero, Nat.mul_one, putL, and_self, ldn, c_spec_l6Level, r_spec_l6Level]
  refine callH_rc (l1In_rc _ _ _ _) ?_
  rintro r new ⟨rfl, rfl⟩
  simp (config := {implicitDefEqProofs := false, maxDischargeDepth := 20}) (disch := first | omega | (simp only [lenE]; done) | (simp only [lenE]; omega) | rfl | (simp only [lenE, markR_len]; done) | (simp only [lenE, markR_len]; omega)) only [runE, mapE, listE, initT_5, initT_6, initT_7, initT_8, resV, oneV, binA, unA, reduceCtorEq, Nat.reduceEqDiff, Nat.reduceAdd, Nat.reduceLT, Nat.reduceLeDiff, Nat.reduceMul, Nat.reduceSub, ↓reduceIte, decide_true, decide_false, Bool.true_eq_false, Bool.false_eq_true, Bool.not_true, Bool.not_false, if_true, if_false, and_true, true_and, memE, celE, w64, Nat.zero_add, Nat.add_zero, Nat.mul_one, putL, and_self, ldn]
  exact newQ_nil ⟨rfl, rfl⟩
def turnB (p : Pr) (t : Int) : Bool := p.good && inZ (p.turns - 1) t
theorem isTurn_rc (m : Mem) (v : Value) (p : Pr) (t : Int) (h : ProcA m v p) : RC Try.prog 26 [v, .int .i64 t] m (AnsV (.bool (turnB p t))) := by
  refine rc_of_run mixed ok_impl_isTurn (by simp) (go_start _ _ _ ?_)
  obtain ⟨u, rfl, hu⟩ := h.ro
  unfold turnB
  simp (config := {implicitDefEqProofs := false, maxDischargeDepth := 20}) (disch := first | omega | (simp only [lenE]; done) | (simp only [lenE]; omega) | rfl | (simp only [lenE, markR_len]; done) | (simp only [lenE, markR_len]; omega)) only [runE, mapE, listE, initT_5, initT_6, initT_7, initT_8, resV, oneV, binA, unA, reduceCtorEq, Nat.reduceEqDiff, Nat.reduceAdd, Nat.reduceLT, Nat.reduceLeDiff, Nat.reduceMul, Nat.reduceSub, ↓reduceIte, decide_true, decide_false, Bool.true_eq_false, Bool.false_eq_true, Bool.not_true, Bool.not_false, if_true, if_false, and_true, true_and, memE, celE, w64, Nat.zero_add, Nat.add_zero, Nat.mul_one, putL, and_self, ldn, c_impl_isTurn, r_impl_isTurn]
  refine callH_rc (implIsProcess_rc _ _ p (ProcA.mk (hu.ext _))) ?_
  rintro r new ⟨rfl, nr⟩
  cases hg : p.good with
  | false =>
    simp (config := {implicitDefEqProofs := false, maxDischargeDepth := 20}) (disch := first | omega | (simp only [lenE]; done) | (simp only [lenE]; omega) | rfl | (simp only [lenE, markR_len]; done) | (simp only [lenE, markR_len]; omega)) only [runE, mapE, listE, initT_5, initT_6, initT_7, initT_8, resV, oneV, binA, unA, reduceCtorEq, Nat.reduceEqDiff, Nat.reduceAdd, Nat.reduceLT, Nat.reduceLeDiff, Nat.reduceMul, Nat.reduceSub, ↓reduceIte, decide_true, decide_false, Bool.true_eq_false, Bool.false_eq_true, Bool.not_true, Bool.not_false, if_true, if_false, and_true, true_and, memE, celE, w64, Nat.zero_add, Nat.add_zero, Nat.mul_one, putL, and_self, ldn]
    try simp only [List.append_assoc, List.cons_append, List.nil_append, List.append_nil]
    exact ⟨_, rfl, by (repeat (first | exact noRo_nil | assumption | apply noRo_own | apply noRo_dead | apply noRo_app)), by simp, by (repeat (first | exact noRo_nil | assumption | apply noRo_own | apply noRo_dead | apply noRo_app))⟩
  | true =>
    have ht := (goodP_iff.1 hg).turns
    simp (config := {implicitDefEqProofs := false, maxDischargeDepth := 20}) (disch := first | omega | (simp only [lenE]; done) | (simp only [lenE]; omega) | rfl | (simp only [lenE, markR_len]; done) | (simp only [lenE, markR_len]; omega)) only [runE, mapE, listE, initT_5, initT_6, initT_7, initT_8, resV, oneV, binA, unA, reduceCtorEq, Nat.reduceEqDiff, Nat.reduceAdd, Nat.reduceLT, Nat.reduceLeDiff, Nat.reduceMul, Nat.reduceSub, ↓reduceIte, decide_true, decide_false, Bool.true_eq_false, Bool.false_eq_true, Bool.not_true, Bool.not_false, if_true, if_false, and_true, true_and, memE, celE, w64, Nat.zero_add, Nat.add_zero, Nat.mul_one, putL, and_self, ldn]
    refine callH_rc (isWithin_rc _ _ _) ?_
    rintro r new ⟨rfl, rfl⟩
    simp (config := {implicitDefEqProofs := false, maxDischargeDepth := 20}) (disch := first | omega | (simp only [lenE]; done) | (simp only [lenE]; omega) | rfl | (simp only [lenE, markR_len]; done) | (simp only [lenE, markR_len]; omega)) only [runE, mapE, listE, initT_5, initT_6, initT_7, initT_8, resV, oneV, binA, unA, reduceCtorEq, Nat.reduceEqDiff, Nat.reduceAdd, Nat.reduceLT, Nat.reduceLeDiff, Nat.reduceMul, Nat.reduceSub, ↓reduceIte, decide_true, decide_false, Bool.true_eq_false, Bool.false_eq_true, Bool.not_true, Bool.not_false, if_true, if_false, and_true, true_and, memE, celE, w64, Nat.zero_add, Nat.add_zero, Nat.mul_one, putL, and_self, ldn]
    try simp only [List.append_assoc, List.cons_append, List.nil_append, List.append_nil]
    exact ⟨_, rfl, by (repeat (first | exact noRo_nil | assumption | apply noRo_own | apply noRo_dead | apply noRo_app)), by simp [inB, inZ], by (repeat (first | exact noRo_nil | assumption | apply noRo_own | apply noRo_dead | apply noRo_app))⟩
theorem l6Turn_rc (m : Mem) (v : Value) (p : Pr) (t : Int) (h : ProcA m v p) : RC Try.prog 30 [v, .int .i64 t] m (AnsV (.bool (turnB p t))) := by
  refine rc_of_run mixed ok_spec_l6Turn (by simp) (go_start _ _ _ ?_)
  obtain ⟨u, rfl, hu⟩ := h.ro
  unfold turnB
  simp (config := {implicitDefEqProofs := false, maxDischargeDepth := 20}) (disch := first | omega | (simp only [lenE]; done) | (simp only [lenE]; omega) | rfl | (simp only [lenE, markR_len]; done) | (simp only [lenE, markR_len]; omega)) only [runE, mapE, listE, initT_5, initT_6, initT_7, initT_8, resV, oneV, binA, unA, reduceCtorEq, Nat.reduceEqDiff, Nat.reduceAdd, Nat.reduceLT, Nat.reduceLeDiff, Nat.reduceMul, Nat.reduceSub, ↓reduceIte, decide_true, decide_false, Bool.true_eq_false, Bool.false_eq_true, Bool.not_true, Bool.not_false, if_true, if_false, and_true, true_and, memE, celE, w64, Nat.zero_add, Nat.add_zero, Nat.mul_one, putL, and_self, ldn, c_spec_l6Turn, r_spec_l6Turn]
  refine callH_rc (l6Good_rc _ _ p (ProcA.mk (hu.ext _))) ?_
  rintro r new ⟨rfl, nr⟩
  cases hg : p.good with
  | false =>
    simp (config := {implicitDefEqProofs := false, maxDischargeDepth := 20}) (disch := first | omega | (simp only [lenE]; done) | (simp only [lenE]; omega) | rfl | (simp only [lenE, markR_len]; done) | (simp only [lenE, markR_len]; omega)) only [runE, mapE, listE, initT_5, initT_6, initT_7, initT_8, resV, oneV, binA, unA, reduceCtorEq, Nat.reduceEqDiff, Nat.reduceAdd, Nat.reduceLT, Nat.reduceLeDiff, Nat.reduceMul, Nat.reduceSub, ↓reduceIte, decide_true, decide_false, Bool.true_eq_false, Bool.false_eq_true, Bool.not_true, Bool.not_false, if_true, if_false, and_true, true_and, memE, celE, w64, Nat.zero_add, Nat.add_zero, Nat.mul_one, putL, and_self, ldn]
    try simp only [List.append_assoc, List.cons_append, List.nil_append, List.append_nil]
    exact ⟨_, rfl, by (repeat (first | exact noRo_nil | assumption | apply noRo_own | apply noRo_dead | apply noRo_app)), by simp, by (repeat (first | exact noRo_nil | assumption | apply noRo_own | apply noRo_dead | apply noRo_app))⟩
  | true =>
    have ht := (goodP_iff.1 hg).turns
    simp (config := {implicitDefEqProofs := false, maxDischargeDepth := 20}) (disch := first | omega | (simp only [lenE]; done) | (simp only [lenE]; omega) | rfl | (simp only [lenE, markR_len]; done) | (simp only [lenE, markR_len]; omega)) only [runE, mapE, listE, initT_5, initT_6, initT_7, initT_8, resV, oneV, binA, unA, reduceCtorEq, Nat.reduceEqDiff, Nat.reduceAdd, Nat.reduceLT, Nat.reduceLeDiff, Nat.reduceMul, Nat.reduceSub, ↓reduceIte, decide_true, decide_false, Bool.true_eq_false, Bool.false_eq_true, Bool.not_true, Bool.not_false, if_true, if_false, and_true, true_and, memE, celE, w64, Nat.zero_add, Nat.add_zero, Nat.mul_one, putL, and_self, ldn]
    refine callH_rc (l1In_rc _ _ _ _) ?_
    rintro r new ⟨rfl, rfl⟩
    simp (config := {implicitDefEqProofs := false, maxDischargeDepth := 20}) (disch := first | omega | (simp only [lenE]; done) | (simp only [lenE]; omega) | rfl | (simp only [lenE, markR_len]; done) | (simp only [lenE, markR_len]; omega)) only [runE, mapE, listE, initT_5, initT_6, initT_7, initT_8, resV, oneV, binA, unA, reduceCtorEq, Nat.reduceEqDiff, Nat.reduceAdd, Nat.reduceLT, Nat.reduceLeDiff, Nat.reduceMul, Nat.reduceSub, ↓reduceIte, decide_true, decide_false, Bool.true_eq_false, Bool.false_eq_true, Bool.not_true, Bool.not_false, if_true, if_false, and_true, true_and, memE, celE, w64, Nat.zero_add, Nat.add_zero, Nat.mul_one, putL, and_self, ldn]
    try simp only [List.append_assoc, List.cons_append, List.nil_append, List.append_nil]
    exact ⟨_, rfl, by (repeat (first | exact noRo_nil | assumption | apply noRo_own | apply noRo_dead | apply noRo_app)), by simp [inZ], by (repeat (first | exact noRo_nil | assumption | apply noRo_own | apply noRo_dead | apply noRo_app))⟩
theorem tab_tsz (p : Pr) (ch : Nat → List Int → Int → Int) {N : Nat} (hN : N ≤ 5) : (p.tab ch N).length ≤ 1048576 ∧ tsz (p.tab ch N) (p.tab ch N).length ≤ 1048576 := by
  have key : ∀ k, k ≤ N + 1 → tsz (p.tab ch N) k = 21 * k := by
    intro k hk
    induction k with
    | zero => rfl
    | succ k ih => simp only [tsz]; rw [ih (by omega), Pr.tab_at p ch (by omega), Pr.rowsN_len]; omega
  rw [Pr.tab_len, key _ (Nat.le_refl _)]
  omega
theorem l6Worths_rc (m : Mem) (v : Value) (p : Pr) (h : ProcA m v p) (hg : GoodP p) : RC Try.prog 33 [v] m (AnsO m (TabO (p.tab p.bestC p.turns.toNat)) id) := by
  refine rc_of_run mixed ok_spec_l6Worths (by simp) (go_start _ _ _ ?_)
  obtain ⟨u, rfl, hu⟩ := h.ro
  obtain ⟨N, hN⟩ : ∃ N, N = p.turns.toNat := ⟨_, rfl⟩
  rw [← hN]
  have ht := hg.turns
  have hN5 : N ≤ 5 := by omega
  have hNt : (N : Int) = p.turns := by omega
  have hf := Pr.best_fair hg N
  obtain ⟨M1, hM1⟩ : ∃ M', M' = roM m ++ [⟨.own, 26, [.int .i64 p.turns, u, .int .i64 p.setup, .int .i64 p.unit, .int .i64 p.hold, .int .i64 p.back]⟩] ++ [⟨.own, 3, List.replicate 21 (.int .i64 0)⟩] ++ [⟨.own, 24, [.slice (some ⟨m.length + 1, 0, none⟩) 21 1]⟩] := ⟨_, rfl⟩
  have hX1 : Ext m M1 := by rw [hM1]; exact (((Ext.refl m).one _ _).one _ _).one _ _
  have hb1 : OwnB M1 m.length 26 [.int .i64 p.turns, u, .int .i64 p.setup, .int .i64 p.unit, .int .i64 p.hold, .int .i64 p.back] := by rw [hM1]; exact ((OwnB.here (roM_len m).symm).ext _).ext _
  have hl1 : M1.length = m.length + 3 := by rw [hM1]; simp [roM_len]
  have hT1 : TabX (p.tab p.bestC 0) m.length M1.length M1 (m.length + 1 + 1) (fun _ => m.length + 1) (fun _ => 1) := by
    refine ⟨by omega, by omega, by rw [hM1]; exact OwnB.here (by simp [roM_len]), fun j hj => ?_, fun i j hi hj _ => ?_⟩
    · have hj0 : j = 0 := by rw [Pr.tab_len] at hj; omega
      subst hj0
      refine ⟨by show m.length ≤ m.length + 1; omega, by show m.length + 1 < M1.length; omega, ?_⟩
      rw [hM1]
      refine OwnR.ext (?_ : OwnR (roM m ++ [⟨.own, 26, [.int .i64 p.turns, u, .int .i64 p.setup, .int .i64 p.unit, .int .i64 p.hold, .int .i64 p.back]⟩] ++ [⟨.own, 3, List.replicate 21 (.int .i64 0)⟩]) _ _) _
      exact OwnR.zeros (m := roM m ++ [⟨.own, 26, [.int .i64 p.turns, u, .int .i64 p.setup, .int .i64 p.unit, .int .i64 p.hold, .int .i64 p.back]⟩]) (n := 21) (id := m.length + 1) (by simp [roM_len])
    · rw [Pr.tab_len] at hi hj; omega
  simp (config := {implicitDefEqProofs := false, maxDischargeDepth := 20}) (disch := first | omega | (simp only [lenE]; done) | (simp only [lenE]; omega) | rfl | (simp only [lenE, markR_len]; done) | (simp only [lenE, markR_len]; omega)) only [runE, mapE, listE, initT_5, initT_6, initT_7, initT_8, resV, oneV, binA, unA, reduceCtorEq, Nat.reduceEqDiff, Nat.reduceAdd, Nat.reduceLT, Nat.reduceLeDiff, Nat.reduceMul, Nat.reduceSub, ↓reduceIte, decide_true, decide_false, Bool.true_eq_false, Bool.false_eq_true, Bool.not_true, Bool.not_false, if_true, if_false, and_true, true_and, memE, celE, w64, Nat.zero_add, Nat.add_zero, Nat.mul_one, putL, and_self, ldn, c_spec_l6Worths, r_spec_l6Worths, mksA_eq (byt := 8) (n := 21) (a := 21) (by rfl) (by omega), bsl_sl']
  refine loop_inv mixed (fun s => ∃ (k : Nat) (M : Mem) (idT : Nat) (R F : Nat → Nat), k ≤ N ∧ s.m = M ∧ Ext m M ∧ OwnB M m.length 26 [.int .i64 p.turns, u, .int .i64 p.setup, .int .i64 p.unit, .int .i64 p.hold, .int .i64 p.back] ∧ TabX (p.tab p.bestC k) m.length M.length M idT R F ∧
      s.t 1 = .pointer (some ⟨m.length, 0, none⟩) ∧ s.t 3 = .slice (some ⟨idT, 0, none⟩) (k + 1) 1 ∧ s.t 4 = .int .i64 (p.turns - 1 - k)) (fun s => (intOf (s.t 4) + 1).toNat)
    ⟨0, M1, m.length + 1 + 1, fun _ => m.length + 1, fun _ => 1, by omega, hM1.symm, hX1, hb1, hT1, rfl, rfl, by simp only [put_t, put_t', put_m, putT_t, putT_t', putT_m, init_t, init_m, initT_0, initT_1, initT_2, initT_3, initT_4, initT_5, initT_6, initT_7, initT_8, Nat.reduceEqDiff, ↓reduceIte]; simp⟩ ?_
  rintro s ⟨k, M, idT, R, F, hk, tm, hX, hb, hT, t1, t3, t4⟩
  by_cases hlt : k < N
  · have hge : (0 : Int) ≤ p.turns - 1 - k := by omega
    obtain ⟨c, hc⟩ : ∃ c, c = M.length := ⟨_, rfl⟩
    have hmc : m.length ≤ c := by rw [hc]; exact hX.len
    have hbl := hb.lt
    have hTc := hT
    rw [← hc] at hTc hbl
    simp (config := {implicitDefEqProofs := false, maxDischargeDepth := 20}) (disch := first | omega | (simp only [lenE]; done) | (simp only [lenE]; omega) | rfl | (simp only [lenE, markR_len]; done) | (simp only [lenE, markR_len]; omega)) only [runE, mapE, listE, initT_5, initT_6, initT_7, initT_8, resV, oneV, binA, unA, reduceCtorEq, Nat.reduceEqDiff, Nat.reduceAdd, Nat.reduceLT, Nat.reduceLeDiff, Nat.reduceMul, Nat.reduceSub, ↓reduceIte, decide_true, decide_false, Bool.true_eq_false, Bool.false_eq_true, Bool.not_true, Bool.not_false, if_true, if_false, and_true, true_and, memE, celE, w64, Nat.zero_add, Nat.add_zero, Nat.mul_one, putL, and_self, ldn, tm, t1, t3, t4, ge_iff_le, hge, bsl_none]
    refine loop_inv mixed (fun s => ∃ (i : Nat) (M : Mem) (id5 : Nat), i ≤ 21 ∧ s.m = M ∧ Ext m M ∧ OwnB M m.length 26 [.int .i64 p.turns, u, .int .i64 p.setup, .int .i64 p.unit, .int .i64 p.hold, .int .i64 p.back] ∧ TabX (p.tab p.bestC k) m.length c M idT R F ∧ c ≤ id5 ∧ OwnR M id5 ((p.rowsN p.bestC (k + 1)).take i) ∧
        s.t 1 = .pointer (some ⟨m.length, 0, none⟩) ∧ s.t 3 = .slice (some ⟨idT, 0, none⟩) (k + 1) 1 ∧ s.t 4 = .int .i64 (p.turns - 1 - k) ∧ s.t 5 = .slice (some ⟨id5, 0, none⟩) i 1 ∧ s.t 6 = .int .i64 ((i : Int) - 10)) (fun s => (20 - intOf (s.t 6)).toNat)
      ⟨0, _, M.length, by omega, rfl, hX.one _ _, hb.ext _, hTc.ext (by omega) _, by omega, OwnR.at_end M [], t1, t3, t4, rfl, by simp only [put_t, put_t', put_m, putT_t, putT_t', putT_m, init_t, init_m, initT_0, initT_1, initT_2, initT_3, initT_4, initT_5, initT_6, initT_7, initT_8, Nat.reduceEqDiff, ↓reduceIte]; simp⟩ ?_
    rintro s ⟨i, M, id5, hi, tm, hX, hb, hT, hid5, ho5, t1, t3, t4, t5, t6⟩
    have hrows : (p.tab p.bestC k).getD 0 [] = p.rowsN p.bestC k := by rw [Pr.tab_at p _ (by omega)]; rfl
    have hlen21 := Pr.rowsN_len p p.bestC k
    have hl2 := Pr.rowsN_len p p.bestC (k + 1)
    by_cases hlti : i < 21
    · have hlti' : (i : Int) - 10 ≤ 10 := by omega
      obtain ⟨r1, r2⟩ := hT.row (j := 0) (by rw [Pr.tab_len]; omega) (by rw [hrows, hlen21]; omega)
      rw [hrows, hlen21] at r1 r2
      have hBB := Pr.rows_big hg hN5 hf (k := k) (by omega)
      simp (config := {implicitDefEqProofs := false, maxDischargeDepth := 20}) (disch := first | omega | (simp only [lenE]; done) | (simp only [lenE]; omega) | rfl | (simp only [lenE, markR_len]; done) | (simp only [lenE, markR_len]; omega)) only [runE, mapE, listE, initT_5, initT_6, initT_7, initT_8, resV, oneV, binA, unA, reduceCtorEq, Nat.reduceEqDiff, Nat.reduceAdd, Nat.reduceLT, Nat.reduceLeDiff, Nat.reduceMul, Nat.reduceSub, ↓reduceIte, decide_true, decide_false, Bool.true_eq_false, Bool.false_eq_true, Bool.not_true, Bool.not_false, if_true, if_false, and_true, true_and, memE, celE, w64, Nat.zero_add, Nat.add_zero, Nat.mul_one, putL, and_self, ldn, tm, t1, t3, t4, t5, t6, hlti', iad0 (n := k + 1) (j := 0) (z := 0) rfl (by omega), r1, hb.rd]
      refine rcallH_rc (l6Best_rc M _ _ p _ _ _ k (ProcA.mk (hX.ints hu)) r2 hg hlen21 hBB (by omega) (by omega) (by omega)) ?_
      rintro r new ⟨rfl, nr⟩
      have hval : p.move (p.rowsN p.bestC k) ((i : Int) - 10) (p.up (p.rowsN p.bestC k) ((i : Int) - 10) k) k = (p.rowsN p.bestC (k + 1)).getD i 0 := (Pr.rowsN_at p p.bestC k hlti).symm
      have happ := app_num (x := (p.rowsN p.bestC (k + 1)).getD i 0) (id2 := (M ++ new).length) (n := i) (ho5.ext new) (by rw [List.length_take]; omega) rfl (by rw [List.length_take]; omega)
      rw [List.length_append] at happ
      simp (config := {implicitDefEqProofs := false, maxDischargeDepth := 20}) (disch := first | omega | (simp only [lenE]; done) | (simp only [lenE]; omega) | rfl | (simp only [lenE, markR_len]; done) | (simp only [lenE, markR_len]; omega)) only [runE, mapE, listE, initT_5, initT_6, initT_7, initT_8, resV, oneV, binA, unA, reduceCtorEq, Nat.reduceEqDiff, Nat.reduceAdd, Nat.reduceLT, Nat.reduceLeDiff, Nat.reduceMul, Nat.reduceSub, ↓reduceIte, decide_true, decide_false, Bool.true_eq_false, Bool.false_eq_true, Bool.not_true, Bool.not_false, if_true, if_false, and_true, true_and, memE, celE, w64, Nat.zero_add, Nat.add_zero, Nat.mul_one, putL, and_self, ldn, t1, t3, t4, t5, t6, hval, ext_2_0, ext_2_1, bsl_one, happ]
      have hidl : id5 < (M ++ new).length := by have := ho5.lt; rw [List.length_append]; omega
      refine ⟨⟨i + 1, _, M.length + new.length + 1, by omega, rfl, (((hX.app nr).dead (by omega)).one _ _).one _ _, (hb.ext new).at_ (same_gen (by omega) hidl), (hT.ext (by have := ho5.lt; omega) new).at_ fun j _ hj => same_gen (by omega) hidl, by have := ho5.lt; omega, ?_, rfl, by congr 1; simp; omega⟩, ?_⟩
      · rw [take_next (by omega)]
        exact OwnB.here (by simp)
      · simp [intOf]; omega
    · have hlti' : ¬ ((i : Int) - 10 ≤ 10) := by omega
      have e : i = 21 := by omega
      subst e
      rw [List.take_of_length_le (by omega)] at ho5
      have hidT := hT.2.2.1
      have hfr := app_front (M := M) (id2 := M.length) (sz := 1) (byt := 24) (n := k + 1) (fl := 1) (ys := [.slice (some ⟨id5, 0, none⟩) 21 1]) hidT rfl (by rw [rowsC_len, Pr.tab_len, Nat.mul_one]) rfl (onesB_rows _ _ _) (by omega) (by omega)
      simp (config := {implicitDefEqProofs := false, maxDischargeDepth := 20}) (disch := first | omega | (simp only [lenE]; done) | (simp only [lenE]; omega) | rfl | (simp only [lenE, markR_len]; done) | (simp only [lenE, markR_len]; omega)) only [runE, mapE, listE, initT_5, initT_6, initT_7, initT_8, resV, oneV, binA, unA, reduceCtorEq, Nat.reduceEqDiff, Nat.reduceAdd, Nat.reduceLT, Nat.reduceLeDiff, Nat.reduceMul, Nat.reduceSub, ↓reduceIte, decide_true, decide_false, Bool.true_eq_false, Bool.false_eq_true, Bool.not_true, Bool.not_false, if_true, if_false, and_true, true_and, memE, celE, w64, Nat.zero_add, Nat.add_zero, Nat.mul_one, putL, and_self, ldn, tm, t1, t3, t4, t5, t6, hlti', bsl_sl', hfr]
      have hl5 := ho5.lt
      refine ⟨⟨k + 1, _, M.length + 1, fun j => if j = 0 then id5 else R (j - 1), fun j => if j = 0 then 1 else F (j - 1), by omega, rfl, (hX.app (noRo_dead noRo_nil)).one _ _, (hb.ext _).ext _, ?_, by congr 1; omega, by congr 1; simp; omega⟩, ?_⟩
      · rw [Pr.tab_succ]
        refine TabX.cons hT (fun j _ hj => ?_) (by have := hX.len; omega) (by simp) ?_ hid5 (by simp; omega) ((ho5.ext _).ext _) (by simp; omega)
        · rw [List.getElem?_append_left (by simp; omega), List.getElem?_append_left (by omega)]
        · rw [hl2]
          exact OwnB.here (by simp)
      · simp [intOf]; omega
  · have hge : ¬ ((0 : Int) ≤ p.turns - 1 - k) := by omega
    have e : k = N := by omega
    subst e
    simp (config := {implicitDefEqProofs := false, maxDischargeDepth := 20}) (disch := first | omega | (simp only [lenE]; done) | (simp only [lenE]; omega) | rfl | (simp only [lenE, markR_len]; done) | (simp only [lenE, markR_len]; omega)) only [runE, mapE, listE, initT_5, initT_6, initT_7, initT_8, resV, oneV, binA, unA, reduceCtorEq, Nat.reduceEqDiff, Nat.reduceAdd, Nat.reduceLT, Nat.reduceLeDiff, Nat.reduceMul, Nat.reduceSub, ↓reduceIte, decide_true, decide_false, Bool.true_eq_false, Bool.false_eq_true, Bool.not_true, Bool.not_false, if_true, if_false, and_true, true_and, memE, celE, w64, Nat.zero_add, Nat.add_zero, Nat.mul_one, putL, and_self, ldn, tm, t1, t3, t4, ge_iff_le, hge]
    have hsz := tab_tsz p p.bestC hN5
    refine ext_ansO (f := _root_.id) hX fun M' hM => ?_
    have := (hT.at_ hM).obj (fl := 1) hsz.1 hsz.2
    rw [Pr.tab_len] at this
    exact this
end Go.Proofs.Ytckpfgkgigicpaa.Ab
end
section
namespace Go.Proofs.Ytckpfgkgigicpaa.Ab
open Go Go.RowKit
set_option linter.unusedVariables false
set_option linter.unusedSimpArgs false
def ChooseA (M : Mem) (fv : Value) (p : Pr) (ch : Nat → List Int → Int → Int) : Prop :=
  ∃ g cap, fv = .func (.func g) #[] cap ∧ ∀ (t x : Int) (vn : Value) (next : List Int) (k : Nat), p.turns - t = (k : Int) + 1 → 0 ≤ t → k ≤ 4 → -10 ≤ x ∧ x ≤ 10 → IntsA M vn next → next.length = 21 → rowIn 30000000000000000 next →
    RC Try.prog g ([.int .i64 t, .int .i64 x, vn] ++ cap.toList) M (AnsV (moveV t x (ch k next x)))
def Pr.okC (p : Pr) (ch : Nat → List Int → Int → Int) (N : Nat) : Prop := ∀ k next x, k < N → -10 ≤ x ∧ x ≤ 10 → p.may (ch k next x) ∧ x ≤ ch k next x
theorem Pr.okC.fair {p : Pr} {ch : Nat → List Int → Int → Int} {N : Nat} (h : Pr.okC p ch N) : p.fair ch N := fun k next x h1 h2 h3 => (h k next x h1 ⟨h2, h3⟩).1
theorem tableBy_rc (m : Mem) (v fv : Value) (p : Pr) (ch : Nat → List Int → Int → Int) (h : ProcA m v p) (hg : GoodP p) (hf : ∀ M, Ext m M → ChooseA M fv p ch) (hch : Pr.okC p ch p.turns.toNat) :
    RC Try.prog 55 [v, fv] m (AnsO m (TabO (p.tab ch p.turns.toNat)) id) := by
  refine rc_of_run mixed ok_impl_tableBy (by simp) (go_start _ _ _ ?_)
  obtain ⟨u, rfl, hu⟩ := h.ro
  obtain ⟨N, hN⟩ : ∃ N, N = p.turns.toNat := ⟨_, rfl⟩
  rw [← hN] at hch
  rw [← hN]
  have ht := hg.turns
  have hN5 : N ≤ 5 := by omega
  have hNt : p.turns = (N : Int) := by omega
  have hfair := hch.fair
  obtain ⟨g, cap, rfl, -⟩ := hf _ (Ext.refl m)
  have hm0 := OwnB.here (M := roM m ++ [⟨.own, 26, [.int .i64 p.turns, u, .int .i64 p.setup, .int .i64 p.unit, .int .i64 p.hold, .int .i64 p.back]⟩]) (id := m.length + 1) (e := 24) (cs := List.replicate (N + 1) (.slice none 0 0)) (by simp [roM_len])
  have hm1 := hm0.ext [⟨.own, 3, List.replicate 21 (.int .i64 0)⟩]
  have hst1 := hm1.st (off := N) (vs := [.slice (some ⟨m.length + 1 + 1, 0, none⟩) 21 1]) (by simp) rfl
  obtain ⟨M1, hM1⟩ : ∃ M' : Mem, M' = List.set (roM m ++ [⟨.own, 26, [.int .i64 p.turns, u, .int .i64 p.setup, .int .i64 p.unit, .int .i64 p.hold, .int .i64 p.back]⟩] ++ [⟨.own, 24, List.replicate (N + 1) (.slice none 0 0)⟩] ++ [⟨.own, 3, List.replicate 21 (.int .i64 0)⟩]) (m.length + 1) ⟨.own, 24, (List.replicate (N + 1) (.slice none 0 0)).set N (.slice (some ⟨m.length + 1 + 1, 0, none⟩) 21 1)⟩ := ⟨_, rfl⟩
  have hX1 : Ext m M1 := by rw [hM1]; exact ((((Ext.refl m).one _ _).one _ _).one _ _).put (id := m.length + 1) (by omega) _ _
  have hb1 : OwnB M1 m.length 26 [.int .i64 p.turns, u, .int .i64 p.setup, .int .i64 p.unit, .int .i64 p.hold, .int .i64 p.back] := by rw [hM1]; exact OwnB.set_ne (((OwnB.here (roM_len m).symm).ext _).ext _) (by omega) _
  have ht1 : OwnB M1 (m.length + 1) 24 ((List.replicate (N + 1) (.slice none 0 0)).set N (.slice (some ⟨m.length + 1 + 1, 0, none⟩) 21 1)) := by rw [hM1]; exact hm1.set_self _ _
  have hr1 : OwnR M1 (m.length + 1 + 1) (p.rowsN ch 0) := by
    rw [hM1]
    refine OwnR.set_ne ?_ (by omega)
    exact OwnR.zeros (m := roM m ++ [⟨.own, 26, [.int .i64 p.turns, u, .int .i64 p.setup, .int .i64 p.unit, .int .i64 p.hold, .int .i64 p.back]⟩] ++ [⟨.own, 24, List.replicate (N + 1) (.slice none 0 0)⟩]) (n := 21) (id := m.length + 1 + 1) (by simp [roM_len])
  have hl1 : M1.length = m.length + 3 := by rw [hM1]; simp [roM_len]
  simp (config := {implicitDefEqProofs := false, maxDischargeDepth := 20}) (disch := first | omega | (simp only [lenE]; done) | (simp only [lenE]; omega) | rfl | (simp only [lenE, markR_len]; done) | (simp only [lenE, markR_len]; omega)) only [runE, mapE, listE, initT_5, initT_6, initT_7, initT_8, resV, oneV, binA, unA, reduceCtorEq, Nat.reduceEqDiff, Nat.reduceAdd, Nat.reduceLT, Nat.reduceLeDiff, Nat.reduceMul, Nat.reduceSub, ↓reduceIte, decide_true, decide_false, Bool.true_eq_false, Bool.false_eq_true, Bool.not_true, Bool.not_false, if_true, if_false, and_true, true_and, memE, celE, w64, Nat.zero_add, Nat.add_zero, Nat.mul_one, putL, and_self, ldn, c_impl_tableBy, r_impl_tableBy, mksA_eq (byt := 24) (n := N + 1) (a := p.turns + 1) (by omega) (by omega), mksA_eq (byt := 8) (n := 21) (a := 21) (by rfl) (by omega), iad0 (n := N + 1) (j := N) (z := p.turns) hNt (by omega), hst1]
  rw [← hM1]
  simp (config := {implicitDefEqProofs := false, maxDischargeDepth := 20}) (disch := first | omega | (simp only [lenE]; done) | (simp only [lenE]; omega) | rfl | (simp only [lenE, markR_len]; done) | (simp only [lenE, markR_len]; omega)) only [runE, mapE, listE, initT_5, initT_6, initT_7, initT_8, resV, oneV, binA, unA, reduceCtorEq, Nat.reduceEqDiff, Nat.reduceAdd, Nat.reduceLT, Nat.reduceLeDiff, Nat.reduceMul, Nat.reduceSub, ↓reduceIte, decide_true, decide_false, Bool.true_eq_false, Bool.false_eq_true, Bool.not_true, Bool.not_false, if_true, if_false, and_true, true_and, memE, celE, w64, Nat.zero_add, Nat.add_zero, Nat.mul_one, putL, and_self, ldn, hb1.rd]
  refine loop_inv mixed (fun s => ∃ (k : Nat) (M : Mem) (cs : List Value) (R : Nat → Nat), k ≤ N ∧ s.m = M ∧ Ext m M ∧ OwnB M m.length 26 [.int .i64 p.turns, u, .int .i64 p.setup, .int .i64 p.unit, .int .i64 p.hold, .int .i64 p.back] ∧ OwnB M (m.length + 1) 24 cs ∧ cs.length = N + 1 ∧
      (∀ j, j ≤ N → cs[j]? = some (if j + k < N then .slice none 0 0 else .slice (some ⟨R j, 0, none⟩) 21 1)) ∧ (∀ j, j ≤ N → N ≤ j + k → m.length ≤ R j ∧ R j < M.length ∧ OwnR M (R j) (p.rowsN ch (N - j))) ∧ (∀ i j, i < j → j ≤ N → N ≤ i + k → R j < R i) ∧
      s.t 1 = .func (.func g) #[] cap ∧ s.t 2 = .pointer (some ⟨m.length, 0, none⟩) ∧ s.t 5 = .slice (some ⟨m.length + 1, 0, none⟩) (N + 1) 1 ∧ s.t 6 = .int .i64 (p.turns - 1 - k)) (fun s => (intOf (s.t 6) + 1).toNat)
    ⟨0, M1, _, fun _ => m.length + 1 + 1, by omega, rfl, hX1, hb1, ht1, by simp, fun j hj => ?_, fun j hj hj2 => ?_, fun i j hij hj hi => absurd hij (by omega), rfl, rfl, rfl, by simp only [put_t, put_t', put_m, putT_t, putT_t', putT_m, init_t, init_m, initT_0, initT_1, initT_2, initT_3, initT_4, initT_5, initT_6, initT_7, initT_8, Nat.reduceEqDiff, ↓reduceIte]; simp⟩ ?_
  · by_cases e : j = N
    · subst e; rw [if_neg (by omega), List.getElem?_set_self (by simp)]
    · rw [if_pos (by omega), List.getElem?_set_ne (by omega), List.getElem?_replicate, if_pos (by omega)]
  · have : j = N := by omega
    subst this
    rw [Nat.sub_self]
    exact ⟨by show m.length ≤ m.length + 1 + 1; omega, by show m.length + 1 + 1 < M1.length; omega, hr1⟩
  rintro s ⟨k, M, cs, R, hk, tm, hX, hb, hT, hcl, hcs, hR, hinc, t1, t2, t5, t6⟩
  by_cases hlt : k < N
  · have hge : (0 : Int) ≤ p.turns - 1 - k := by omega
    obtain ⟨tu, htu⟩ : ∃ tu, tu = N - 1 - k := ⟨_, rfl⟩
    have htz : p.turns - 1 - k = (tu : Int) := by omega
    have hcell := hcs (tu + 1) (by omega)
    rw [if_neg (by omega)] at hcell
    have hrow := hR (tu + 1) (by omega) (by omega)
    rw [show N - (tu + 1) = k by omega] at hrow
    have hlen21 := Pr.rowsN_len p ch k
    have hl2 := Pr.rowsN_len p ch (k + 1)
    have hBB := Pr.rows_big hg hN5 hfair (k := k) (by omega)
    have hrd1 := hT.rd (tu + 1)
    rw [hcell] at hrd1
    have hnil := hcs tu (by omega)
    rw [if_pos (by omega)] at hnil
    obtain ⟨c, hc⟩ : ∃ c, c = M.length := ⟨_, rfl⟩
    have hmc : m.length + 1 < c := by rw [hc]; exact hT.lt
    rw [htz] at t6 hge
    simp (config := {implicitDefEqProofs := false, maxDischargeDepth := 20}) (disch := first | omega | (simp only [lenE]; done) | (simp only [lenE]; omega) | rfl | (simp only [lenE, markR_len]; done) | (simp only [lenE, markR_len]; omega)) only [runE, mapE, listE, initT_5, initT_6, initT_7, initT_8, resV, oneV, binA, unA, reduceCtorEq, Nat.reduceEqDiff, Nat.reduceAdd, Nat.reduceLT, Nat.reduceLeDiff, Nat.reduceMul, Nat.reduceSub, ↓reduceIte, decide_true, decide_false, Bool.true_eq_false, Bool.false_eq_true, Bool.not_true, Bool.not_false, if_true, if_false, and_true, true_and, memE, celE, w64, Nat.zero_add, Nat.add_zero, Nat.mul_one, putL, and_self, ldn, tm, t1, t2, t5, t6, ge_iff_le, hge, iad0 (n := N + 1) (j := tu + 1) (z := (tu : Int) + 1) (by omega) (by omega), hrd1]
    refine loop_inv mixed (fun s => ∃ (i : Nat) (M : Mem) (w : Value), i ≤ 21 ∧ s.m = M ∧ Ext m M ∧ OwnB M m.length 26 [.int .i64 p.turns, u, .int .i64 p.setup, .int .i64 p.unit, .int .i64 p.hold, .int .i64 p.back] ∧ OwnB M (m.length + 1) 24 (cs.set tu w) ∧ c ≤ M.length ∧ (∀ j, j ≤ N → N ≤ j + k → OwnR M (R j) (p.rowsN ch (N - j))) ∧
        ((i = 0 ∧ w = .slice none 0 0) ∨ (0 < i ∧ ∃ id5, w = .slice (some ⟨id5, 0, none⟩) i 1 ∧ c ≤ id5 ∧ OwnR M id5 ((p.rowsN ch (k + 1)).take i))) ∧
        s.t 1 = .func (.func g) #[] cap ∧ s.t 2 = .pointer (some ⟨m.length, 0, none⟩) ∧ s.t 5 = .slice (some ⟨m.length + 1, 0, none⟩) (N + 1) 1 ∧ s.t 6 = .int .i64 tu ∧ s.t 7 = .slice (some ⟨R (tu + 1), 0, none⟩) 21 1 ∧ s.t 8 = .int .i64 ((i : Int) - 10)) (fun s => (20 - intOf (s.t 8)).toNat)
      ⟨0, M, .slice none 0 0, by omega, tm, hX, hb, ?_, by omega, fun j h1 h2 => (hR j h1 h2).2.2, .inl ⟨rfl, rfl⟩, t1, t2, t5, t6, rfl, by simp only [put_t, put_t', put_m, putT_t, putT_t', putT_m, init_t, init_m, initT_0, initT_1, initT_2, initT_3, initT_4, initT_5, initT_6, initT_7, initT_8, Nat.reduceEqDiff, ↓reduceIte]; simp⟩ ?_
    · have : cs.set tu (.slice none 0 0) = cs := by
        apply List.ext_getElem?
        intro j
        by_cases e : j = tu
        · subst e; rw [List.getElem?_set_self (by omega), hnil]
        · rw [List.getElem?_set_ne (by omega)]
      rw [this]; exact hT
    rintro s ⟨i, M, w, hi, tm, hX, hb, hT, hcM, hRM, hw, t1, t2, t5, t6, t7, t8⟩
    by_cases hlti : i < 21
    · have hlti' : (i : Int) - 10 ≤ 10 := by omega
      have hrw := hT.rd tu
      rw [List.getElem?_set_self (by omega)] at hrw
      have hrowM := hRM (tu + 1) (by omega) (by omega)
      rw [show N - (tu + 1) = k by omega] at hrowM
      have hnext := hrowM.ints (by omega) 1
      rw [hlen21] at hnext
      have hxx : -10 ≤ (i : Int) - 10 ∧ (i : Int) - 10 ≤ 10 := by omega
      obtain ⟨g', cap', e, hcall⟩ := hf M hX
      cases e
      have hval := hch k (p.rowsN ch k) ((i : Int) - 10) (by omega) hxx
      simp (config := {implicitDefEqProofs := false, maxDischargeDepth := 20}) (disch := first | omega | (simp only [lenE]; done) | (simp only [lenE]; omega) | rfl | (simp only [lenE, markR_len]; done) | (simp only [lenE, markR_len]; omega)) only [runE, mapE, listE, initT_5, initT_6, initT_7, initT_8, resV, oneV, binA, unA, reduceCtorEq, Nat.reduceEqDiff, Nat.reduceAdd, Nat.reduceLT, Nat.reduceLeDiff, Nat.reduceMul, Nat.reduceSub, ↓reduceIte, decide_true, decide_false, Bool.true_eq_false, Bool.false_eq_true, Bool.not_true, Bool.not_false, if_true, if_false, and_true, true_and, memE, celE, w64, Nat.zero_add, Nat.add_zero, Nat.mul_one, putL, and_self, ldn, tm, t1, t2, t5, t6, t7, t8, hlti', iad0 (n := N + 1) (j := tu) (z := (tu : Int)) rfl (by omega), hrw, hb.rd]
      refine rcallH_rc (hcall _ _ _ (p.rowsN ch k) k (by omega) (by omega) (by omega) hxx hnext hlen21 hBB) ?_
      rintro r n1 ⟨rfl, nr1⟩
      simp (config := {implicitDefEqProofs := false, maxDischargeDepth := 20}) (disch := first | omega | (simp only [lenE]; done) | (simp only [lenE]; omega) | rfl | (simp only [lenE, markR_len]; done) | (simp only [lenE, markR_len]; omega)) only [runE, mapE, listE, initT_5, initT_6, initT_7, initT_8, resV, oneV, binA, unA, reduceCtorEq, Nat.reduceEqDiff, Nat.reduceAdd, Nat.reduceLT, Nat.reduceLeDiff, Nat.reduceMul, Nat.reduceSub, ↓reduceIte, decide_true, decide_false, Bool.true_eq_false, Bool.false_eq_true, Bool.not_true, Bool.not_false, if_true, if_false, and_true, true_and, memE, celE, w64, Nat.zero_add, Nat.add_zero, Nat.mul_one, putL, and_self, ldn]
      refine rcallH_rc (moveCost_rc (M ++ n1) _ _ p (p.rowsN ch k) _ _ _ k (ProcA.mk ((hX.ints hu).ext n1)) (hnext.ext n1) hg hlen21 hBB hxx hval.1 hval.2 (by omega) (by omega) (by omega)) ?_
      rintro r n2 ⟨rfl, nr2⟩
      rw [← Pr.rowsN_at p ch k hlti]
      obtain ⟨x, hx⟩ : ∃ x, x = (p.rowsN ch (k + 1)).getD i 0 := ⟨_, rfl⟩
      rw [← hx]
      have hX2 := (hX.app nr1).app nr2
      have hT2 := (hT.ext n1).ext n2
      have hb2 := (hb.ext n1).ext n2
      obtain ⟨M2, hM2⟩ : ∃ M', M' = M ++ n1 ++ n2 := ⟨_, rfl⟩
      have hl2M : M2.length = M.length + n1.length + n2.length := by rw [hM2]; simp [Nat.add_assoc]
      have hR2 : ∀ j, j ≤ N → N ≤ j + k → OwnR M2 (R j) (p.rowsN ch (N - j)) := fun j h1 h2 => by rw [hM2]; exact ((hRM j h1 h2).ext n1).ext n2
      have hRlt : ∀ j, j ≤ N → N ≤ j + k → R j < c := fun j h1 h2 => by rw [hc]; exact (hR j h1 h2).2.1
      rw [← hM2] at hX2 hT2 hb2
      rw [← hM2]
      rcases hw with ⟨hi0, rfl⟩ | ⟨hi0, id5, rfl, hid5, ho5⟩
      · subst hi0
        have happ := app_nil (M := M2) (id2 := M2.length) (e := 3) (sz := 1) (byt := 8) (ys := [.int .i64 x]) rfl rfl rfl (by omega)
        obtain ⟨M3, hM3⟩ : ∃ M', M' = M2 ++ [⟨.own, 3, [.int .i64 x]⟩] ++ [⟨.own, 3, [.int .i64 x]⟩] := ⟨_, rfl⟩
        have hX3 : Ext m M3 := by rw [hM3]; exact (hX2.one _ _).one _ _
        have hT3 : OwnB M3 (m.length + 1) 24 (cs.set tu (.slice none 0 0)) := by rw [hM3]; exact (hT2.ext _).ext _
        have hb3 : OwnB M3 m.length 26 [.int .i64 p.turns, u, .int .i64 p.setup, .int .i64 p.unit, .int .i64 p.hold, .int .i64 p.back] := by rw [hM3]; exact (hb2.ext _).ext _
        have ho3 : OwnR M3 (M2.length + 1) ((p.rowsN ch (k + 1)).take 1) := by
          rw [hM3, take_next (by omega), List.take_zero, List.nil_append, ← hx]
          exact OwnB.here (by simp)
        have hR3 : ∀ j, j ≤ N → N ≤ j + k → OwnR M3 (R j) (p.rowsN ch (N - j)) := fun j h1 h2 => by rw [hM3]; exact ((hR2 j h1 h2).ext _).ext _
        have hst := hT3.st (off := tu) (vs := [.slice (some ⟨M2.length + 1, 0, none⟩) 1 1]) (by simp; omega) rfl
        rw [← hM3] at happ
        simp (config := {implicitDefEqProofs := false, maxDischargeDepth := 20}) (disch := first | omega | (simp only [lenE]; done) | (simp only [lenE]; omega) | rfl | (simp only [lenE, markR_len]; done) | (simp only [lenE, markR_len]; omega)) only [runE, mapE, listE, initT_5, initT_6, initT_7, initT_8, resV, oneV, binA, unA, reduceCtorEq, Nat.reduceEqDiff, Nat.reduceAdd, Nat.reduceLT, Nat.reduceLeDiff, Nat.reduceMul, Nat.reduceSub, ↓reduceIte, decide_true, decide_false, Bool.true_eq_false, Bool.false_eq_true, Bool.not_true, Bool.not_false, if_true, if_false, and_true, true_and, memE, celE, w64, Nat.zero_add, Nat.add_zero, Nat.mul_one, putL, and_self, ldn, t1, t2, t5, t6, t7, t8, bsl_one, happ, iad0 (n := N + 1) (j := tu) (z := (tu : Int)) rfl (by omega), hst]
        refine ⟨⟨1, _, _, by omega, rfl, hX3.put (by omega) _ _, OwnB.set_ne hb3 (by omega) _, (by rw [List.set_set]; exact hT3.set_self _ _ : OwnB _ _ _ (cs.set tu (.slice (some ⟨M2.length + 1, 0, none⟩) 1 1))), by rw [List.length_set, hM3]; simp; omega, fun j h1 h2 => OwnR.set_ne (hR3 j h1 h2) (fun e => ?_), .inr ⟨by omega, _, rfl, by omega, OwnR.set_ne ho3 (by omega)⟩, by simp⟩, ?_⟩
        · have := hR3 j h1 h2
          rw [← e] at this
          exact absurd rfl (OwnB.ne hT3 (show OwnB M3 (m.length + 1) 3 _ from this) (by decide))
        · simp [intOf]
      · have ho52 : OwnR M2 id5 ((p.rowsN ch (k + 1)).take i) := by rw [hM2]; exact (ho5.ext n1).ext n2
        have happ := app_num (M := M2) (x := x) (id2 := M2.length) (n := i) ho52 (by rw [List.length_take]; omega) rfl (by rw [List.length_take]; omega)
        obtain ⟨M3, hM3⟩ : ∃ M', M' = M2.set id5 deadB ++ [⟨.own, 3, [.int .i64 x]⟩] ++ [⟨.own, 3, ((p.rowsN ch (k + 1)).take i ++ [x]).map (Value.int .i64)⟩] := ⟨_, rfl⟩
        have hid5l := ho52.lt
        have hX3 : Ext m M3 := by rw [hM3]; exact ((hX2.dead (by omega)).one _ _).one _ _
        have hT3 : OwnB M3 (m.length + 1) 24 (cs.set tu (.slice (some ⟨id5, 0, none⟩) i 1)) := by rw [hM3]; exact hT2.at_ (same_gen (by omega) hid5l)
        have hb3 : OwnB M3 m.length 26 [.int .i64 p.turns, u, .int .i64 p.setup, .int .i64 p.unit, .int .i64 p.hold, .int .i64 p.back] := by rw [hM3]; exact hb2.at_ (same_gen (by omega) hid5l)
        have ho3 : OwnR M3 (M2.length + 1) ((p.rowsN ch (k + 1)).take (i + 1)) := by
          rw [hM3, take_next (by omega), ← hx]
          exact OwnB.here (by simp)
        have hR3 : ∀ j, j ≤ N → N ≤ j + k → OwnR M3 (R j) (p.rowsN ch (N - j)) := fun j h1 h2 => by rw [hM3]; exact (hR2 j h1 h2).at_ (same_gen (by have := hRlt j h1 h2; omega) hid5l)
        have hst := hT3.st (off := tu) (vs := [.slice (some ⟨M2.length + 1, 0, none⟩) (i + 1) 1]) (by simp; omega) rfl
        rw [← hM3] at happ
        simp (config := {implicitDefEqProofs := false, maxDischargeDepth := 20}) (disch := first | omega | (simp only [lenE]; done) | (simp only [lenE]; omega) | rfl | (simp only [lenE, markR_len]; done) | (simp only [lenE, markR_len]; omega)) only [runE, mapE, listE, initT_5, initT_6, initT_7, initT_8, resV, oneV, binA, unA, reduceCtorEq, Nat.reduceEqDiff, Nat.reduceAdd, Nat.reduceLT, Nat.reduceLeDiff, Nat.reduceMul, Nat.reduceSub, ↓reduceIte, decide_true, decide_false, Bool.true_eq_false, Bool.false_eq_true, Bool.not_true, Bool.not_false, if_true, if_false, and_true, true_and, memE, celE, w64, Nat.zero_add, Nat.add_zero, Nat.mul_one, putL, and_self, ldn, t1, t2, t5, t6, t7, t8, bsl_one, happ, iad0 (n := N + 1) (j := tu) (z := (tu : Int)) rfl (by omega), hst]
        refine ⟨⟨i + 1, _, _, by omega, rfl, hX3.put (by omega) _ _, OwnB.set_ne hb3 (by omega) _, (by rw [List.set_set]; exact hT3.set_self _ _ : OwnB _ _ _ (cs.set tu (.slice (some ⟨M2.length + 1, 0, none⟩) (i + 1) 1))), by rw [List.length_set, hM3]; simp; omega, fun j h1 h2 => OwnR.set_ne (hR3 j h1 h2) (fun e => ?_), .inr ⟨by omega, _, rfl, by omega, OwnR.set_ne ho3 (by omega)⟩, by congr 1; simp; omega⟩, ?_⟩
        · have := hR3 j h1 h2
          rw [← e] at this
          exact absurd rfl (OwnB.ne hT3 (show OwnB M3 (m.length + 1) 3 _ from this) (by decide))
        · simp [intOf]; omega
    · have hlti' : ¬ ((i : Int) - 10 ≤ 10) := by omega
      have e : i = 21 := by omega
      subst e
      rcases hw with ⟨hi0, _⟩ | ⟨_, id5, rfl, hid5, ho5⟩
      · omega
      rw [List.take_of_length_le (by omega)] at ho5
      simp (config := {implicitDefEqProofs := false, maxDischargeDepth := 20}) (disch := first | omega | (simp only [lenE]; done) | (simp only [lenE]; omega) | rfl | (simp only [lenE, markR_len]; done) | (simp only [lenE, markR_len]; omega)) only [runE, mapE, listE, initT_5, initT_6, initT_7, initT_8, resV, oneV, binA, unA, reduceCtorEq, Nat.reduceEqDiff, Nat.reduceAdd, Nat.reduceLT, Nat.reduceLeDiff, Nat.reduceMul, Nat.reduceSub, ↓reduceIte, decide_true, decide_false, Bool.true_eq_false, Bool.false_eq_true, Bool.not_true, Bool.not_false, if_true, if_false, and_true, true_and, memE, celE, w64, Nat.zero_add, Nat.add_zero, Nat.mul_one, putL, and_self, ldn, tm, t1, t2, t5, t6, t7, t8, hlti']
      have hRlt : ∀ j, j ≤ N → N ≤ j + k → R j < c := fun j h1 h2 => by rw [hc]; exact (hR j h1 h2).2.1
      refine ⟨⟨k + 1, M, cs.set tu (.slice (some ⟨id5, 0, none⟩) 21 1), fun j => if j = tu then id5 else R j, by omega, rfl, hX, hb, hT, by rw [List.length_set]; exact hcl, fun j hj => ?_, fun j hj hj2 => ?_, fun a b hab hb hab2 => ?_, by congr 1; omega⟩, ?_⟩
      · by_cases e : j = tu
        · subst e
          rw [List.getElem?_set_self (by omega), if_neg (by omega)]; simp
        · rw [List.getElem?_set_ne (by omega), hcs j hj]
          simp only [if_neg e]
          by_cases e2 : j + k < N
          · rw [if_pos e2, if_pos (by omega)]
          · rw [if_neg e2, if_neg (by omega)]
      · by_cases e : j = tu
        · subst e
          simp only [if_true]
          rw [show N - j = k + 1 by omega]
          exact ⟨by omega, ho5.lt, ho5⟩
        · simp only [if_neg e]
          have := hR j hj (by omega)
          exact ⟨this.1, by have := hRlt j hj (by omega); omega, hRM j hj (by omega)⟩
      · show (if b = tu then id5 else R b) < (if a = tu then id5 else R a)
        by_cases e : a = tu
        · subst e
          rw [if_neg (by omega), if_pos rfl]
          have := hRlt b hb (by omega); omega
        · rw [if_neg (by omega), if_neg e]
          exact hinc a b hab hb (by omega)
      · simp [intOf]
  · have hge : ¬ ((0 : Int) ≤ p.turns - 1 - k) := by omega
    have e : k = N := by omega
    subst e
    simp (config := {implicitDefEqProofs := false, maxDischargeDepth := 20}) (disch := first | omega | (simp only [lenE]; done) | (simp only [lenE]; omega) | rfl | (simp only [lenE, markR_len]; done) | (simp only [lenE, markR_len]; omega)) only [runE, mapE, listE, initT_5, initT_6, initT_7, initT_8, resV, oneV, binA, unA, reduceCtorEq, Nat.reduceEqDiff, Nat.reduceAdd, Nat.reduceLT, Nat.reduceLeDiff, Nat.reduceMul, Nat.reduceSub, ↓reduceIte, decide_true, decide_false, Bool.true_eq_false, Bool.false_eq_true, Bool.not_true, Bool.not_false, if_true, if_false, and_true, true_and, memE, celE, w64, Nat.zero_add, Nat.add_zero, Nat.mul_one, putL, and_self, ldn, tm, t1, t2, t5, t6, ge_iff_le, hge]
    have hsz := tab_tsz p ch hN5
    have hcsT : cs = rowsC (p.tab ch k) R (fun _ => 1) := by
      apply List.ext_getElem?
      intro j
      by_cases hj : j ≤ k
      · rw [hcs j hj, if_neg (by omega), rowsC_at (by rw [Pr.tab_len]; omega), Pr.tab_at p ch hj, Pr.rowsN_len]
      · rw [List.getElem?_eq_none (by omega), List.getElem?_eq_none (by rw [rowsC_len, Pr.tab_len]; omega)]
    refine ext_ansO (f := _root_.id) hX fun M' hM => ?_
    refine ⟨hsz.1, hsz.2, m.length + 1, 1, R, fun _ => 1, by rw [Pr.tab_len], by omega, hT.lt, by rw [← hcsT]; exact hT.at_ (hM _ (by omega) hT.lt), fun j hj => ?_, fun a b ha hb hab => ?_⟩
    · rw [Pr.tab_len] at hj
      rw [Pr.tab_at p ch (by omega)]
      have := hR j (by omega) (by omega)
      exact ⟨this.1, this.2.1, this.2.2.at_ (hM _ this.1 this.2.1)⟩
    · rw [Pr.tab_len] at ha hb
      rcases Nat.lt_trichotomy a b with e | e | e
      · have := hinc a b e (by omega) (by omega); omega
      · exact e
      · have := hinc b a e (by omega) (by omega); omega
end Go.Proofs.Ytckpfgkgigicpaa.Ab
end
section
namespace Go.Proofs.Ytckpfgkgigicpaa.Ab
open Go Go.RowKit
set_option linter.unusedVariables false
set_option linter.unusedSimpArgs false
theorem Pr.best_ok {p : Pr} (h : GoodP p) (N : Nat) : Pr.okC p p.bestC N := fun k next x _ hx => Pr.up_may h next hx k
theorem worthTable1_rc (m : Mem) (id : Nat) (u vn : Value) (p : Pr) (next : List Int) (t x : Int) (k : Nat) (hid : id < m.length) (hb : ∀ j, rdc m id j = [.int .i64 p.turns, u, .int .i64 p.setup, .int .i64 p.unit, .int .i64 p.hold, .int .i64 p.back][j]?) (hu : IntsA m u p.w) (hn : IntsA m vn next) (hg : GoodP p) (hl : next.length = 21) (hB : rowIn 30000000000000000 next) (hx : -10 ≤ x ∧ x ≤ 10) (ht : p.turns - t = (k : Int) + 1) (ht0 : 0 ≤ t) (hk : k ≤ 4) :
    RC Try.prog 56 [.int .i64 t, .int .i64 x, vn, .pointer (some ⟨id, 0, none⟩)] m (AnsV (moveV t x (p.up next x k))) := by
  refine rc_of_run mixed ok_impl_worthTable_1 (by simp) (go_start _ _ _ ?_)
  have hrd : ∀ j, rdc (roM m) id j = [.int .i64 p.turns, u, .int .i64 p.setup, .int .i64 p.unit, .int .i64 p.hold, .int .i64 p.back][j]? := fun j => by rw [rdc_roM]; exact hb j
  simp (config := {implicitDefEqProofs := false, maxDischargeDepth := 20}) (disch := first | omega | (simp only [lenE]; done) | (simp only [lenE]; omega) | rfl | (simp only [lenE, markR_len]; done) | (simp only [lenE, markR_len]; omega)) only [runE, mapE, listE, initT_5, initT_6, initT_7, initT_8, resV, oneV, binA, unA, reduceCtorEq, Nat.reduceEqDiff, Nat.reduceAdd, Nat.reduceLT, Nat.reduceLeDiff, Nat.reduceMul, Nat.reduceSub, ↓reduceIte, decide_true, decide_false, Bool.true_eq_false, Bool.false_eq_true, Bool.not_true, Bool.not_false, if_true, if_false, and_true, true_and, memE, celE, w64, Nat.zero_add, Nat.add_zero, Nat.mul_one, putL, and_self, ldn, c_impl_worthTable_1, r_impl_worthTable_1, hrd]
  refine callH_rc (bestMove_rc _ _ vn p next t x k (ProcA.mk (hu.ro.ext _)) (hn.ro.ext _) hg hl hB hx ht ht0 hk) ?_
  rintro r new ⟨rfl, nr⟩
  simp (config := {implicitDefEqProofs := false, maxDischargeDepth := 20}) (disch := first | omega | (simp only [lenE]; done) | (simp only [lenE]; omega) | rfl | (simp only [lenE, markR_len]; done) | (simp only [lenE, markR_len]; omega)) only [runE, mapE, listE, initT_5, initT_6, initT_7, initT_8, resV, oneV, binA, unA, reduceCtorEq, Nat.reduceEqDiff, Nat.reduceAdd, Nat.reduceLT, Nat.reduceLeDiff, Nat.reduceMul, Nat.reduceSub, ↓reduceIte, decide_true, decide_false, Bool.true_eq_false, Bool.false_eq_true, Bool.not_true, Bool.not_false, if_true, if_false, and_true, true_and, memE, celE, w64, Nat.zero_add, Nat.add_zero, Nat.mul_one, putL, and_self, ldn]
  try simp only [List.append_assoc, List.cons_append, List.nil_append, List.append_nil]
  exact ⟨_, rfl, by (repeat (first | exact noRo_nil | assumption | apply noRo_own | apply noRo_dead | apply noRo_app)), rfl, by (repeat (first | exact noRo_nil | assumption | apply noRo_own | apply noRo_dead | apply noRo_app))⟩
theorem worthTable_rc (m : Mem) (v : Value) (p : Pr) (h : ProcA m v p) (hg : GoodP p) : RC Try.prog 29 [v] m (AnsO m (TabO (p.tab p.bestC p.turns.toNat)) id) := by
  refine rc_of_run mixed ok_impl_worthTable (by simp) (go_start _ _ _ ?_)
  obtain ⟨u, rfl, hu⟩ := h.ro
  simp (config := {implicitDefEqProofs := false, maxDischargeDepth := 20}) (disch := first | omega | (simp only [lenE]; done) | (simp only [lenE]; omega) | rfl | (simp only [lenE, markR_len]; done) | (simp only [lenE, markR_len]; omega)) only [runE, mapE, listE, initT_5, initT_6, initT_7, initT_8, resV, oneV, binA, unA, reduceCtorEq, Nat.reduceEqDiff, Nat.reduceAdd, Nat.reduceLT, Nat.reduceLeDiff, Nat.reduceMul, Nat.reduceSub, ↓reduceIte, decide_true, decide_false, Bool.true_eq_false, Bool.false_eq_true, Bool.not_true, Bool.not_false, if_true, if_false, and_true, true_and, memE, celE, w64, Nat.zero_add, Nat.add_zero, Nat.mul_one, putL, and_self, ldn, c_impl_worthTable, r_impl_worthTable]
  refine callH_rc (tableBy_rc _ _ _ p p.bestC (ProcA.mk (hu.ext _)) hg ?_ (Pr.best_ok hg _)) ?_
  · intro M hX
    refine ⟨_, _, rfl, fun t x vn next k ht ht0 hk hx hn hl hB => ?_⟩
    have hl0 := hX.len
    simp only [List.length_append, roM_len, List.length_cons, List.length_nil] at hl0
    refine worthTable1_rc _ m.length u vn p next t x k (by omega) (fun j => ?_) ((hu.ext _).xt2 hX) hn hg hl hB hx ht ht0 hk
    obtain ⟨n0, rfl, h0⟩ := hX
    rw [rdc_left (by simp [roM_len]), rdc_roM, rdc_lastH (roM_len m).symm]
    rfl
  · rintro r new ⟨nr, w, rfl, hw⟩
    simp (config := {implicitDefEqProofs := false, maxDischargeDepth := 20}) (disch := first | omega | (simp only [lenE]; done) | (simp only [lenE]; omega) | rfl | (simp only [lenE, markR_len]; done) | (simp only [lenE, markR_len]; omega)) only [runE, mapE, listE, initT_5, initT_6, initT_7, initT_8, resV, oneV, binA, unA, reduceCtorEq, Nat.reduceEqDiff, Nat.reduceAdd, Nat.reduceLT, Nat.reduceLeDiff, Nat.reduceMul, Nat.reduceSub, ↓reduceIte, decide_true, decide_false, Bool.true_eq_false, Bool.false_eq_true, Bool.not_true, Bool.not_false, if_true, if_false, and_true, true_and, memE, celE, w64, Nat.zero_add, Nat.add_zero, Nat.mul_one, putL, and_self, ldn]
    exact ((Ext.refl m).one _ _).pass nr (TabO.wide _) hw
theorem implWorthTable_rc (m : Mem) (v : Value) (p : Pr) (h : ProcA m v p) : RC Try.prog 17 [v] m (AnsO m (TabO (if p.good then p.tab p.bestC p.turns.toNat else [])) fun v => .tuple #[v, .bool p.good]) := by
  refine rc_of_run mixed ok_impl_WorthTable (by simp) (go_start _ _ _ ?_)
  obtain ⟨u, rfl, hu⟩ := h.ro
  simp (config := {implicitDefEqProofs := false, maxDischargeDepth := 20}) (disch := first | omega | (simp only [lenE]; done) | (simp only [lenE]; omega) | rfl | (simp only [lenE, markR_len]; done) | (simp only [lenE, markR_len]; omega)) only [runE, mapE, listE, initT_5, initT_6, initT_7, initT_8, resV, oneV, binA, unA, reduceCtorEq, Nat.reduceEqDiff, Nat.reduceAdd, Nat.reduceLT, Nat.reduceLeDiff, Nat.reduceMul, Nat.reduceSub, ↓reduceIte, decide_true, decide_false, Bool.true_eq_false, Bool.false_eq_true, Bool.not_true, Bool.not_false, if_true, if_false, and_true, true_and, memE, celE, w64, Nat.zero_add, Nat.add_zero, Nat.mul_one, putL, and_self, ldn, c_impl_WorthTable, r_impl_WorthTable]
  refine callH_rc (implIsProcess_rc _ _ p (ProcA.mk (hu.ext _))) ?_
  rintro r new ⟨rfl, nr⟩
  cases hg : p.good with
  | false =>
    simp (config := {implicitDefEqProofs := false, maxDischargeDepth := 20}) (disch := first | omega | (simp only [lenE]; done) | (simp only [lenE]; omega) | rfl | (simp only [lenE, markR_len]; done) | (simp only [lenE, markR_len]; omega)) only [runE, mapE, listE, initT_5, initT_6, initT_7, initT_8, resV, oneV, binA, unA, reduceCtorEq, Nat.reduceEqDiff, Nat.reduceAdd, Nat.reduceLT, Nat.reduceLeDiff, Nat.reduceMul, Nat.reduceSub, ↓reduceIte, decide_true, decide_false, Bool.true_eq_false, Bool.false_eq_true, Bool.not_true, Bool.not_false, if_true, if_false, and_true, true_and, memE, celE, w64, Nat.zero_add, Nat.add_zero, Nat.mul_one, putL, and_self, ldn, bsl_no]
    exact ext_noTab (f := fun v => .tuple #[v, .bool false]) (((Ext.refl m).one _ _).app nr) (by simp [roM_len]; omega)
  | true =>
    simp (config := {implicitDefEqProofs := false, maxDischargeDepth := 20}) (disch := first | omega | (simp only [lenE]; done) | (simp only [lenE]; omega) | rfl | (simp only [lenE, markR_len]; done) | (simp only [lenE, markR_len]; omega)) only [runE, mapE, listE, initT_5, initT_6, initT_7, initT_8, resV, oneV, binA, unA, reduceCtorEq, Nat.reduceEqDiff, Nat.reduceAdd, Nat.reduceLT, Nat.reduceLeDiff, Nat.reduceMul, Nat.reduceSub, ↓reduceIte, decide_true, decide_false, Bool.true_eq_false, Bool.false_eq_true, Bool.not_true, Bool.not_false, if_true, if_false, and_true, true_and, memE, celE, w64, Nat.zero_add, Nat.add_zero, Nat.mul_one, putL, and_self, ldn]
    refine callH_rc (worthTable_rc _ _ p (ProcA.mk ((hu.ext _).ext _)) (goodP_iff.1 hg)) ?_
    rintro r new' ⟨nr', w, rfl, hw⟩
    simp (config := {implicitDefEqProofs := false, maxDischargeDepth := 20}) (disch := first | omega | (simp only [lenE]; done) | (simp only [lenE]; omega) | rfl | (simp only [lenE, markR_len]; done) | (simp only [lenE, markR_len]; omega)) only [runE, mapE, listE, initT_5, initT_6, initT_7, initT_8, resV, oneV, binA, unA, reduceCtorEq, Nat.reduceEqDiff, Nat.reduceAdd, Nat.reduceLT, Nat.reduceLeDiff, Nat.reduceMul, Nat.reduceSub, ↓reduceIte, decide_true, decide_false, Bool.true_eq_false, Bool.false_eq_true, Bool.not_true, Bool.not_false, if_true, if_false, and_true, true_and, memE, celE, w64, Nat.zero_add, Nat.add_zero, Nat.mul_one, putL, and_self, ldn]
    exact (((Ext.refl m).one _ _).app nr).pass (f := fun v => .tuple #[v, .bool true]) nr' (TabO.wide _) hw
theorem specWorthTable_rc (m : Mem) (v : Value) (p : Pr) (h : ProcA m v p) : RC Try.prog 18 [v] m (AnsO m (TabO (if p.good then p.tab p.bestC p.turns.toNat else [])) fun v => .tuple #[v, .bool p.good]) := by
  refine rc_of_run mixed ok_spec_WorthTable (by simp) (go_start _ _ _ ?_)
  obtain ⟨u, rfl, hu⟩ := h.ro
  simp (config := {implicitDefEqProofs := false, maxDischargeDepth := 20}) (disch := first | omega | (simp only [lenE]; done) | (simp only [lenE]; omega) | rfl | (simp only [lenE, markR_len]; done) | (simp only [lenE, markR_len]; omega)) only [runE, mapE, listE, initT_5, initT_6, initT_7, initT_8, resV, oneV, binA, unA, reduceCtorEq, Nat.reduceEqDiff, Nat.reduceAdd, Nat.reduceLT, Nat.reduceLeDiff, Nat.reduceMul, Nat.reduceSub, ↓reduceIte, decide_true, decide_false, Bool.true_eq_false, Bool.false_eq_true, Bool.not_true, Bool.not_false, if_true, if_false, and_true, true_and, memE, celE, w64, Nat.zero_add, Nat.add_zero, Nat.mul_one, putL, and_self, ldn, c_spec_WorthTable, r_spec_WorthTable]
  refine callH_rc (l6Good_rc _ _ p (ProcA.mk (hu.ext _))) ?_
  rintro r new ⟨rfl, nr⟩
  cases hg : p.good with
  | false =>
    simp (config := {implicitDefEqProofs := false, maxDischargeDepth := 20}) (disch := first | omega | (simp only [lenE]; done) | (simp only [lenE]; omega) | rfl | (simp only [lenE, markR_len]; done) | (simp only [lenE, markR_len]; omega)) only [runE, mapE, listE, initT_5, initT_6, initT_7, initT_8, resV, oneV, binA, unA, reduceCtorEq, Nat.reduceEqDiff, Nat.reduceAdd, Nat.reduceLT, Nat.reduceLeDiff, Nat.reduceMul, Nat.reduceSub, ↓reduceIte, decide_true, decide_false, Bool.true_eq_false, Bool.false_eq_true, Bool.not_true, Bool.not_false, if_true, if_false, and_true, true_and, memE, celE, w64, Nat.zero_add, Nat.add_zero, Nat.mul_one, putL, and_self, ldn, bsl_no]
    exact ext_noTab (f := fun v => .tuple #[v, .bool false]) (((Ext.refl m).one _ _).app nr) (by simp [roM_len]; omega)
  | true =>
    simp (config := {implicitDefEqProofs := false, maxDischargeDepth := 20}) (disch := first | omega | (simp only [lenE]; done) | (simp only [lenE]; omega) | rfl | (simp only [lenE, markR_len]; done) | (simp only [lenE, markR_len]; omega)) only [runE, mapE, listE, initT_5, initT_6, initT_7, initT_8, resV, oneV, binA, unA, reduceCtorEq, Nat.reduceEqDiff, Nat.reduceAdd, Nat.reduceLT, Nat.reduceLeDiff, Nat.reduceMul, Nat.reduceSub, ↓reduceIte, decide_true, decide_false, Bool.true_eq_false, Bool.false_eq_true, Bool.not_true, Bool.not_false, if_true, if_false, and_true, true_and, memE, celE, w64, Nat.zero_add, Nat.add_zero, Nat.mul_one, putL, and_self, ldn]
    refine callH_rc (l6Worths_rc _ _ p (ProcA.mk ((hu.ext _).ext _)) (goodP_iff.1 hg)) ?_
    rintro r new' ⟨nr', w, rfl, hw⟩
    simp (config := {implicitDefEqProofs := false, maxDischargeDepth := 20}) (disch := first | omega | (simp only [lenE]; done) | (simp only [lenE]; omega) | rfl | (simp only [lenE, markR_len]; done) | (simp only [lenE, markR_len]; omega)) only [runE, mapE, listE, initT_5, initT_6, initT_7, initT_8, resV, oneV, binA, unA, reduceCtorEq, Nat.reduceEqDiff, Nat.reduceAdd, Nat.reduceLT, Nat.reduceLeDiff, Nat.reduceMul, Nat.reduceSub, ↓reduceIte, decide_true, decide_false, Bool.true_eq_false, Bool.false_eq_true, Bool.not_true, Bool.not_false, if_true, if_false, and_true, true_and, memE, celE, w64, Nat.zero_add, Nat.add_zero, Nat.mul_one, putL, and_self, ldn]
    exact (((Ext.refl m).one _ _).app nr).pass (f := fun v => .tuple #[v, .bool true]) nr' (TabO.wide _) hw
theorem next_row {M : Mem} {w : Value} {p : Pr} {ch : Nat → List Int → Int → Int} {N lo hi : Nat} (h : TabO (p.tab ch N) lo hi M w) {z : Int} {j : Nat} (hz : z = j) (hj : j ≤ N) :
    iadA 1 w (.int .i64 z) = some (pAt w j) ∧ ∃ x, ldA M none (pAt w j) = some x ∧ IntsA M x (p.rowsN ch (N - j)) := by
  subst hz
  have a := h.in.at_ j (by rw [Pr.tab_len]; omega)
  obtain ⟨x, h1, h2⟩ := h.in.ld j (by rw [Pr.tab_len]; omega)
  rw [Pr.tab_at p ch hj] at h2
  exact ⟨a, x, h1, h2⟩
theorem fld_2 (a b c : Value) : fldA 2 none (.agg #[a, b, c]) = some c := rfl
def orderB (p : Pr) (t x : Int) : Bool := turnB p t && levB x
def orderUp (p : Pr) (t x : Int) : Int := if orderB p t x then p.up (p.rowsN p.bestC ((p.turns - 1 - t).toNat)) x (p.turns - 1 - t).toNat else 0
theorem implBestOrder_rc (m : Mem) (v : Value) (p : Pr) (t x : Int) (h : ProcA m v p) : RC Try.prog 6 [v, .int .i64 t, .int .i64 x] m (AnsV (.tuple #[.int .i64 (orderUp p t x), .bool (orderB p t x)])) := by
  refine rc_of_run mixed ok_impl_BestOrder (by simp) (go_start _ _ _ ?_)
  obtain ⟨u, rfl, hu⟩ := h.ro
  unfold orderUp
  simp (config := {implicitDefEqProofs := false, maxDischargeDepth := 20}) (disch := first | omega | (simp only [lenE]; done) | (simp only [lenE]; omega) | rfl | (simp only [lenE, markR_len]; done) | (simp only [lenE, markR_len]; omega)) only [runE, mapE, listE, initT_5, initT_6, initT_7, initT_8, resV, oneV, binA, unA, reduceCtorEq, Nat.reduceEqDiff, Nat.reduceAdd, Nat.reduceLT, Nat.reduceLeDiff, Nat.reduceMul, Nat.reduceSub, ↓reduceIte, decide_true, decide_false, Bool.true_eq_false, Bool.false_eq_true, Bool.not_true, Bool.not_false, if_true, if_false, and_true, true_and, memE, celE, w64, Nat.zero_add, Nat.add_zero, Nat.mul_one, putL, and_self, ldn, c_impl_BestOrder, r_impl_BestOrder]
  refine callH_rc (isTurn_rc _ _ p t (ProcA.mk (hu.ext _))) ?_
  rintro r n1 ⟨rfl, nr1⟩
  cases b1 : turnB p t with
  | false =>
    simp (config := {implicitDefEqProofs := false, maxDischargeDepth := 20}) (disch := first | omega | (simp only [lenE]; done) | (simp only [lenE]; omega) | rfl | (simp only [lenE, markR_len]; done) | (simp only [lenE, markR_len]; omega)) only [runE, mapE, listE, initT_5, initT_6, initT_7, initT_8, resV, oneV, binA, unA, reduceCtorEq, Nat.reduceEqDiff, Nat.reduceAdd, Nat.reduceLT, Nat.reduceLeDiff, Nat.reduceMul, Nat.reduceSub, ↓reduceIte, decide_true, decide_false, Bool.true_eq_false, Bool.false_eq_true, Bool.not_true, Bool.not_false, if_true, if_false, and_true, true_and, memE, celE, w64, Nat.zero_add, Nat.add_zero, Nat.mul_one, putL, and_self, ldn]
    have e : orderB p t x = false := by simp [orderB, b1]
    rw [e]
    try simp only [List.append_assoc, List.cons_append, List.nil_append, List.append_nil]
    exact ⟨_, rfl, by (repeat (first | exact noRo_nil | assumption | apply noRo_own | apply noRo_dead | apply noRo_app)), by simp, by (repeat (first | exact noRo_nil | assumption | apply noRo_own | apply noRo_dead | apply noRo_app))⟩
  | true =>
    simp (config := {implicitDefEqProofs := false, maxDischargeDepth := 20}) (disch := first | omega | (simp only [lenE]; done) | (simp only [lenE]; omega) | rfl | (simp only [lenE, markR_len]; done) | (simp only [lenE, markR_len]; omega)) only [runE, mapE, listE, initT_5, initT_6, initT_7, initT_8, resV, oneV, binA, unA, reduceCtorEq, Nat.reduceEqDiff, Nat.reduceAdd, Nat.reduceLT, Nat.reduceLeDiff, Nat.reduceMul, Nat.reduceSub, ↓reduceIte, decide_true, decide_false, Bool.true_eq_false, Bool.false_eq_true, Bool.not_true, Bool.not_false, if_true, if_false, and_true, true_and, memE, celE, w64, Nat.zero_add, Nat.add_zero, Nat.mul_one, putL, and_self, ldn]
    refine callH_rc (isLevel_rc _ x) ?_
    rintro r n2 ⟨rfl, rfl⟩
    cases b2 : levB x with
    | false =>
      simp (config := {implicitDefEqProofs := false, maxDischargeDepth := 20}) (disch := first | omega | (simp only [lenE]; done) | (simp only [lenE]; omega) | rfl | (simp only [lenE, markR_len]; done) | (simp only [lenE, markR_len]; omega)) only [runE, mapE, listE, initT_5, initT_6, initT_7, initT_8, resV, oneV, binA, unA, reduceCtorEq, Nat.reduceEqDiff, Nat.reduceAdd, Nat.reduceLT, Nat.reduceLeDiff, Nat.reduceMul, Nat.reduceSub, ↓reduceIte, decide_true, decide_false, Bool.true_eq_false, Bool.false_eq_true, Bool.not_true, Bool.not_false, if_true, if_false, and_true, true_and, memE, celE, w64, Nat.zero_add, Nat.add_zero, Nat.mul_one, putL, and_self, ldn]
      have e : orderB p t x = false := by simp [orderB, b2]
      rw [e]
      try simp only [List.append_assoc, List.cons_append, List.nil_append, List.append_nil]
      exact ⟨_, rfl, by (repeat (first | exact noRo_nil | assumption | apply noRo_own | apply noRo_dead | apply noRo_app)), by simp, by (repeat (first | exact noRo_nil | assumption | apply noRo_own | apply noRo_dead | apply noRo_app))⟩
    | true =>
      have e : orderB p t x = true := by simp [orderB, b1, b2]
      rw [e]
      simp only [turnB, Bool.and_eq_true, inZ, decide_eq_true_eq] at b1
      simp only [levB, Bool.and_eq_true, decide_eq_true_eq] at b2
      have hG := goodP_iff.1 b1.1
      have ht := hG.turns
      simp (config := {implicitDefEqProofs := false, maxDischargeDepth := 20}) (disch := first | omega | (simp only [lenE]; done) | (simp only [lenE]; omega) | rfl | (simp only [lenE, markR_len]; done) | (simp only [lenE, markR_len]; omega)) only [runE, mapE, listE, initT_5, initT_6, initT_7, initT_8, resV, oneV, binA, unA, reduceCtorEq, Nat.reduceEqDiff, Nat.reduceAdd, Nat.reduceLT, Nat.reduceLeDiff, Nat.reduceMul, Nat.reduceSub, ↓reduceIte, decide_true, decide_false, Bool.true_eq_false, Bool.false_eq_true, Bool.not_true, Bool.not_false, if_true, if_false, and_true, true_and, memE, celE, w64, Nat.zero_add, Nat.add_zero, Nat.mul_one, putL, and_self, ldn]
      refine rcallH_rc (worthTable_rc _ _ p (ProcA.mk ((hu.ext _).ext _)) hG) ?_
      rintro r n3 ⟨nr3, w, rfl, hw⟩
      obtain ⟨a1, y, a2, a3⟩ := next_row hw.now (z := t + 1) (j := (t + 1).toNat) (by omega) (by omega)
      rw [show p.turns.toNat - (t + 1).toNat = (p.turns - 1 - t).toNat by omega] at a3
      simp (config := {implicitDefEqProofs := false, maxDischargeDepth := 20}) (disch := first | omega | (simp only [lenE]; done) | (simp only [lenE]; omega) | rfl | (simp only [lenE, markR_len]; done) | (simp only [lenE, markR_len]; omega)) only [runE, mapE, listE, initT_5, initT_6, initT_7, initT_8, resV, oneV, binA, unA, reduceCtorEq, Nat.reduceEqDiff, Nat.reduceAdd, Nat.reduceLT, Nat.reduceLeDiff, Nat.reduceMul, Nat.reduceSub, ↓reduceIte, decide_true, decide_false, Bool.true_eq_false, Bool.false_eq_true, Bool.not_true, Bool.not_false, if_true, if_false, and_true, true_and, memE, celE, w64, Nat.zero_add, Nat.add_zero, Nat.mul_one, putL, and_self, ldn, id_eq, a1, a2]
      refine rcallH_rc (bestMove_rc _ _ _ p _ t x (p.turns - 1 - t).toNat (ProcA.mk (((hu.ext _).ext _).ext _)) a3 hG (Pr.rowsN_len _ _ _) (Pr.rows_big hG (by omega) (Pr.best_fair hG 5) (k := (p.turns - 1 - t).toNat) (by omega)) b2 (by omega) (by omega) (by omega)) ?_
      rintro r n4 ⟨rfl, nr4⟩
      simp (config := {implicitDefEqProofs := false, maxDischargeDepth := 20}) (disch := first | omega | (simp only [lenE]; done) | (simp only [lenE]; omega) | rfl | (simp only [lenE, markR_len]; done) | (simp only [lenE, markR_len]; omega)) only [runE, mapE, listE, initT_5, initT_6, initT_7, initT_8, resV, oneV, binA, unA, reduceCtorEq, Nat.reduceEqDiff, Nat.reduceAdd, Nat.reduceLT, Nat.reduceLeDiff, Nat.reduceMul, Nat.reduceSub, ↓reduceIte, decide_true, decide_false, Bool.true_eq_false, Bool.false_eq_true, Bool.not_true, Bool.not_false, if_true, if_false, and_true, true_and, memE, celE, w64, Nat.zero_add, Nat.add_zero, Nat.mul_one, putL, and_self, ldn, fld_2]
      try simp only [List.append_assoc, List.cons_append, List.nil_append, List.append_nil]
      exact ⟨_, rfl, by (repeat (first | exact noRo_nil | assumption | apply noRo_own | apply noRo_dead | apply noRo_app)), by simp, by (repeat (first | exact noRo_nil | assumption | apply noRo_own | apply noRo_dead | apply noRo_app))⟩
theorem specBestOrder_rc (m : Mem) (v : Value) (p : Pr) (t x : Int) (h : ProcA m v p) : RC Try.prog 7 [v, .int .i64 t, .int .i64 x] m (AnsV (.tuple #[.int .i64 (orderUp p t x), .bool (orderB p t x)])) := by
  refine rc_of_run mixed ok_spec_BestOrder (by simp) (go_start _ _ _ ?_)
  obtain ⟨u, rfl, hu⟩ := h.ro
  unfold orderUp
  simp (config := {implicitDefEqProofs := false, maxDischargeDepth := 20}) (disch := first | omega | (simp only [lenE]; done) | (simp only [lenE]; omega) | rfl | (simp only [lenE, markR_len]; done) | (simp only [lenE, markR_len]; omega)) only [runE, mapE, listE, initT_5, initT_6, initT_7, initT_8, resV, oneV, binA, unA, reduceCtorEq, Nat.reduceEqDiff, Nat.reduceAdd, Nat.reduceLT, Nat.reduceLeDiff, Nat.reduceMul, Nat.reduceSub, ↓reduceIte, decide_true, decide_false, Bool.true_eq_false, Bool.false_eq_true, Bool.not_true, Bool.not_false, if_true, if_false, and_true, true_and, memE, celE, w64, Nat.zero_add, Nat.add_zero, Nat.mul_one, putL, and_self, ldn, c_spec_BestOrder, r_spec_BestOrder]
  refine callH_rc (l6Turn_rc _ _ p t (ProcA.mk (hu.ext _))) ?_
  rintro r n1 ⟨rfl, nr1⟩
  cases b1 : turnB p t with
  | false =>
    simp (config := {implicitDefEqProofs := false, maxDischargeDepth := 20}) (disch := first | omega | (simp only [lenE]; done) | (simp only [lenE]; omega) | rfl | (simp only [lenE, markR_len]; done) | (simp only [lenE, markR_len]; omega)) only [runE, mapE, listE, initT_5, initT_6, initT_7, initT_8, resV, oneV, binA, unA, reduceCtorEq, Nat.reduceEqDiff, Nat.reduceAdd, Nat.reduceLT, Nat.reduceLeDiff, Nat.reduceMul, Nat.reduceSub, ↓reduceIte, decide_true, decide_false, Bool.true_eq_false, Bool.false_eq_true, Bool.not_true, Bool.not_false, if_true, if_false, and_true, true_and, memE, celE, w64, Nat.zero_add, Nat.add_zero, Nat.mul_one, putL, and_self, ldn]
    have e : orderB p t x = false := by simp [orderB, b1]
    rw [e]
    try simp only [List.append_assoc, List.cons_append, List.nil_append, List.append_nil]
    exact ⟨_, rfl, by (repeat (first | exact noRo_nil | assumption | apply noRo_own | apply noRo_dead | apply noRo_app)), by simp, by (repeat (first | exact noRo_nil | assumption | apply noRo_own | apply noRo_dead | apply noRo_app))⟩
  | true =>
    simp (config := {implicitDefEqProofs := false, maxDischargeDepth := 20}) (disch := first | omega | (simp only [lenE]; done) | (simp only [lenE]; omega) | rfl | (simp only [lenE, markR_len]; done) | (simp only [lenE, markR_len]; omega)) only [runE, mapE, listE, initT_5, initT_6, initT_7, initT_8, resV, oneV, binA, unA, reduceCtorEq, Nat.reduceEqDiff, Nat.reduceAdd, Nat.reduceLT, Nat.reduceLeDiff, Nat.reduceMul, Nat.reduceSub, ↓reduceIte, decide_true, decide_false, Bool.true_eq_false, Bool.false_eq_true, Bool.not_true, Bool.not_false, if_true, if_false, and_true, true_and, memE, celE, w64, Nat.zero_add, Nat.add_zero, Nat.mul_one, putL, and_self, ldn]
    refine callH_rc (l6Level_rc _ x) ?_
    rintro r n2 ⟨rfl, rfl⟩
    cases b2 : levB x with
    | false =>
      simp (config := {implicitDefEqProofs := false, maxDischargeDepth := 20}) (disch := first | omega | (simp only [lenE]; done) | (simp only [lenE]; omega) | rfl | (simp only [lenE, markR_len]; done) | (simp only [lenE, markR_len]; omega)) only [runE, mapE, listE, initT_5, initT_6, initT_7, initT_8, resV, oneV, binA, unA, reduceCtorEq, Nat.reduceEqDiff, Nat.reduceAdd, Nat.reduceLT, Nat.reduceLeDiff, Nat.reduceMul, Nat.reduceSub, ↓reduceIte, decide_true, decide_false, Bool.true_eq_false, Bool.false_eq_true, Bool.not_true, Bool.not_false, if_true, if_false, and_true, true_and, memE, celE, w64, Nat.zero_add, Nat.add_zero, Nat.mul_one, putL, and_self, ldn]
      have e : orderB p t x = false := by simp [orderB, b2]
      rw [e]
      try simp only [List.append_assoc, List.cons_append, List.nil_append, List.append_nil]
      exact ⟨_, rfl, by (repeat (first | exact noRo_nil | assumption | apply noRo_own | apply noRo_dead | apply noRo_app)), by simp, by (repeat (first | exact noRo_nil | assumption | apply noRo_own | apply noRo_dead | apply noRo_app))⟩
    | true =>
      have e : orderB p t x = true := by simp [orderB, b1, b2]
      rw [e]
      simp only [turnB, Bool.and_eq_true, inZ, decide_eq_true_eq] at b1
      simp only [levB, Bool.and_eq_true, decide_eq_true_eq] at b2
      have hG := goodP_iff.1 b1.1
      have ht := hG.turns
      simp (config := {implicitDefEqProofs := false, maxDischargeDepth := 20}) (disch := first | omega | (simp only [lenE]; done) | (simp only [lenE]; omega) | rfl | (simp only [lenE, markR_len]; done) | (simp only [lenE, markR_len]; omega)) only [runE, mapE, listE, initT_5, initT_6, initT_7, initT_8, resV, oneV, binA, unA, reduceCtorEq, Nat.reduceEqDiff, Nat.reduceAdd, Nat.reduceLT, Nat.reduceLeDiff, Nat.reduceMul, Nat.reduceSub, ↓reduceIte, decide_true, decide_false, Bool.true_eq_false, Bool.false_eq_true, Bool.not_true, Bool.not_false, if_true, if_false, and_true, true_and, memE, celE, w64, Nat.zero_add, Nat.add_zero, Nat.mul_one, putL, and_self, ldn]
      refine rcallH_rc (l6Worths_rc _ _ p (ProcA.mk ((hu.ext _).ext _)) hG) ?_
      rintro r n3 ⟨nr3, w, rfl, hw⟩
      obtain ⟨a1, y, a2, a3⟩ := next_row hw.now (z := t + 1) (j := (t + 1).toNat) (by omega) (by omega)
      rw [show p.turns.toNat - (t + 1).toNat = (p.turns - 1 - t).toNat by omega] at a3
      simp (config := {implicitDefEqProofs := false, maxDischargeDepth := 20}) (disch := first | omega | (simp only [lenE]; done) | (simp only [lenE]; omega) | rfl | (simp only [lenE, markR_len]; done) | (simp only [lenE, markR_len]; omega)) only [runE, mapE, listE, initT_5, initT_6, initT_7, initT_8, resV, oneV, binA, unA, reduceCtorEq, Nat.reduceEqDiff, Nat.reduceAdd, Nat.reduceLT, Nat.reduceLeDiff, Nat.reduceMul, Nat.reduceSub, ↓reduceIte, decide_true, decide_false, Bool.true_eq_false, Bool.false_eq_true, Bool.not_true, Bool.not_false, if_true, if_false, and_true, true_and, memE, celE, w64, Nat.zero_add, Nat.add_zero, Nat.mul_one, putL, and_self, ldn, id_eq, a1, a2]
      refine rcallH_rc (l6Best_rc _ _ _ p _ x _ (p.turns - 1 - t).toNat (ProcA.mk (((hu.ext _).ext _).ext _)) a3 hG (Pr.rowsN_len _ _ _) (Pr.rows_big hG (by omega) (Pr.best_fair hG 5) (k := (p.turns - 1 - t).toNat) (by omega)) b2 (by omega) (by omega)) ?_
      rintro r n4 ⟨rfl, nr4⟩
      simp (config := {implicitDefEqProofs := false, maxDischargeDepth := 20}) (disch := first | omega | (simp only [lenE]; done) | (simp only [lenE]; omega) | rfl | (simp only [lenE, markR_len]; done) | (simp only [lenE, markR_len]; omega)) only [runE, mapE, listE, initT_5, initT_6, initT_7, initT_8, resV, oneV, binA, unA, reduceCtorEq, Nat.reduceEqDiff, Nat.reduceAdd, Nat.reduceLT, Nat.reduceLeDiff, Nat.reduceMul, Nat.reduceSub, ↓reduceIte, decide_true, decide_false, Bool.true_eq_false, Bool.false_eq_true, Bool.not_true, Bool.not_false, if_true, if_false, and_true, true_and, memE, celE, w64, Nat.zero_add, Nat.add_zero, Nat.mul_one, putL, and_self, ldn, ext_2_0, ext_2_1]
      try simp only [List.append_assoc, List.cons_append, List.nil_append, List.append_nil]
      exact ⟨_, rfl, by (repeat (first | exact noRo_nil | assumption | apply noRo_own | apply noRo_dead | apply noRo_app)), by simp, by (repeat (first | exact noRo_nil | assumption | apply noRo_own | apply noRo_dead | apply noRo_app))⟩
end Go.Proofs.Ytckpfgkgigicpaa.Ab
end
section
namespace Go.Proofs.Ytckpfgkgigicpaa.Ab
open Go Go.RowKit
set_option linter.unusedVariables false
set_option linter.unusedSimpArgs false
def billsL (p : Pr) (next : List Int) (n : Nat) : List Int := (List.range (22 - p.w.length)).map fun (i : Nat) => p.bill next (p.floor + (i : Int)) n
theorem billsL_len (p : Pr) (next : List Int) (n : Nat) : (billsL p next n).length = 22 - p.w.length := by simp [billsL]
theorem billsL_at {p : Pr} {next : List Int} {n i : Nat} (h : i < 22 - p.w.length) : (billsL p next n).getD i 0 = p.bill next (p.floor + (i : Int)) n := by
  simp [billsL, List.getD_eq_getElem?_getD, h]
theorem bill_bd {p : Pr} (hg : GoodP p) {next : List Int} (hB : rowIn 30000000000000000 next) {y : Int} {n : Nat} (hn : n ≤ 4) (hy : p.may y) :
    -700000000000000000 ≤ p.unit * y * p.pow (n + 1) + p.after next y n ∧ p.unit * y * p.pow (n + 1) + p.after next y n ≤ 700000000000000000 := by
  have hfl := hg.floor
  have hy1 := hy.1
  have hy2 := hy.2
  have hm := pmul_in hg (y := y) (by omega) (n := n + 1) (by omega)
  have ha := hg.after hB (by decide) hn hy
  omega
theorem l6Bills_rc (m : Mem) (v vt : Value) (p : Pr) (T : List (List Int)) (next : List Int) (t : Int) (n : Nat) (h : ProcA m v p) (hT : TabA m vt T) (hg : GoodP p) (hnext : T.getD (t + 1).toNat [] = next) (htT : (t + 1).toNat < T.length) (hl : next.length = 21) (hB : rowIn 30000000000000000 next) (ht : p.turns - t = (n : Int) + 1) (ht0 : 0 ≤ t) (hn4 : n ≤ 4) :
    RC Try.prog 35 [v, vt, .int .i64 t] m (AnsO m (IntsO (billsL p next n)) id) := by
  refine rc_of_run mixed ok_spec_l6Bills (by simp) (go_start _ _ _ ?_)
  obtain ⟨u, rfl, hu⟩ := h.ro
  have hfl := hg.floor
  have hlen := hg.len
  have htu := hg.turns
  have hflo : p.floor = (p.w.length : Int) - 11 := by unfold Pr.floor; omega
  have hbl := billsL_len p next n
  simp (config := {implicitDefEqProofs := false, maxDischargeDepth := 20}) (disch := first | omega | (simp only [lenE]; done) | (simp only [lenE]; omega) | rfl | (simp only [lenE, markR_len]; done) | (simp only [lenE, markR_len]; omega)) only [runE, mapE, listE, initT_5, initT_6, initT_7, initT_8, resV, oneV, binA, unA, reduceCtorEq, Nat.reduceEqDiff, Nat.reduceAdd, Nat.reduceLT, Nat.reduceLeDiff, Nat.reduceMul, Nat.reduceSub, ↓reduceIte, decide_true, decide_false, Bool.true_eq_false, Bool.false_eq_true, Bool.not_true, Bool.not_false, if_true, if_false, and_true, true_and, memE, celE, w64, Nat.zero_add, Nat.add_zero, Nat.mul_one, putL, and_self, ldn, c_spec_l6Bills, r_spec_l6Bills, bsl_none]
  refine callH_rc (l6Floor_rc _ _ p (ProcA.mk ((hu.ext _).ext _)) hg) ?_
  rintro r new ⟨rfl, nr⟩
  simp (config := {implicitDefEqProofs := false, maxDischargeDepth := 20}) (disch := first | omega | (simp only [lenE]; done) | (simp only [lenE]; omega) | rfl | (simp only [lenE, markR_len]; done) | (simp only [lenE, markR_len]; omega)) only [runE, mapE, listE, initT_5, initT_6, initT_7, initT_8, resV, oneV, binA, unA, reduceCtorEq, Nat.reduceEqDiff, Nat.reduceAdd, Nat.reduceLT, Nat.reduceLeDiff, Nat.reduceMul, Nat.reduceSub, ↓reduceIte, decide_true, decide_false, Bool.true_eq_false, Bool.false_eq_true, Bool.not_true, Bool.not_false, if_true, if_false, and_true, true_and, memE, celE, w64, Nat.zero_add, Nat.add_zero, Nat.mul_one, putL, and_self, ldn]
  refine loop_inv mixed (fun s => ∃ (i : Nat) (M : Mem) (id : Nat), i ≤ 22 - p.w.length ∧ s.m = M ∧ Ext m M ∧ OwnB M m.length 26 [.int .i64 p.turns, u, .int .i64 p.setup, .int .i64 p.unit, .int .i64 p.hold, .int .i64 p.back] ∧ m.length < id ∧ OwnR M id ((billsL p next n).take i) ∧
      s.t 1 = vt ∧ s.t 2 = .int .i64 t ∧ s.t 3 = .pointer (some ⟨m.length, 0, none⟩) ∧ s.t 7 = .slice (some ⟨id, 0, none⟩) i 1 ∧ s.t 8 = .int .i64 (p.floor + i)) (fun s => (20 - intOf (s.t 8)).toNat)
    ⟨0, _, m.length + 1, by omega, rfl, (((Ext.refl m).one _ _).one _ _).app nr, ((OwnB.here (roM_len m).symm).ext _).ext _, by omega, OwnR.ext (by have := OwnR.at_end (roM m ++ [⟨.own, 26, [.int .i64 p.turns, u, .int .i64 p.setup, .int .i64 p.unit, .int .i64 p.hold, .int .i64 p.back]⟩]) []; simpa [roM_len] using this) new, rfl, rfl, rfl, rfl, by simp only [put_t, put_t', put_m, putT_t, putT_t', putT_m, init_t, init_m, initT_0, initT_1, initT_2, initT_3, initT_4, initT_5, initT_6, initT_7, initT_8, Nat.reduceEqDiff, ↓reduceIte]; simp⟩ ?_
  rintro s ⟨i, M, id, hi, tm, hX, hb, hid, ho, t1, t2, t3, t7, t8⟩
  by_cases hlt : i < 22 - p.w.length
  · have hlt' : p.floor + (i : Int) ≤ 10 := by omega
    have hmay : p.may (p.floor + i) := ⟨by omega, hlt'⟩
    have hTM := hT.ro
    obtain ⟨n0, rfl, hn0⟩ := hX
    have hTX := hT.ro.ext n0
    have hX : Ext m (roM m ++ n0) := ⟨n0, rfl, hn0⟩
    have a1 := hTX.at_ _ htT
    rw [show (((t + 1).toNat : Nat) : Int) = t + 1 by omega] at a1
    obtain ⟨y, a2, a3⟩ := hTX.ld _ htT
    rw [hnext] at a3
    simp (config := {implicitDefEqProofs := false, maxDischargeDepth := 20}) (disch := first | omega | (simp only [lenE]; done) | (simp only [lenE]; omega) | rfl | (simp only [lenE, markR_len]; done) | (simp only [lenE, markR_len]; omega)) only [runE, mapE, listE, initT_5, initT_6, initT_7, initT_8, resV, oneV, binA, unA, reduceCtorEq, Nat.reduceEqDiff, Nat.reduceAdd, Nat.reduceLT, Nat.reduceLeDiff, Nat.reduceMul, Nat.reduceSub, ↓reduceIte, decide_true, decide_false, Bool.true_eq_false, Bool.false_eq_true, Bool.not_true, Bool.not_false, if_true, if_false, and_true, true_and, memE, celE, w64, Nat.zero_add, Nat.add_zero, Nat.mul_one, putL, and_self, ldn, tm, t1, t2, t3, t7, t8, hlt', hb.rd, a1, a2]
    refine rcallH_rc (l6Bill_rc _ _ y p next _ (p.floor + i) n (ProcA.mk (hX.ints hu)) a3 hg hl hB hmay ht hn4) ?_
    rintro r n1 ⟨rfl, nr1⟩
    rw [← billsL_at hlt]
    have hidl := (ho.ext n1).lt
    have happ := app_num (x := (billsL p next n).getD i 0) (id2 := (roM m ++ n0 ++ n1).length) (n := i) (ho.ext n1) (by rw [List.length_take]; omega) rfl (by rw [List.length_take]; omega)
    obtain ⟨M2, hM2⟩ : ∃ M', M' = roM m ++ n0 ++ n1 := ⟨_, rfl⟩
    have hX2 : Ext m M2 := by rw [hM2]; exact hX.app nr1
    have hb2 := hb.ext n1
    rw [← hM2] at happ hidl hb2
    rw [← hM2]
    simp (config := {implicitDefEqProofs := false, maxDischargeDepth := 20}) (disch := first | omega | (simp only [lenE]; done) | (simp only [lenE]; omega) | rfl | (simp only [lenE, markR_len]; done) | (simp only [lenE, markR_len]; omega)) only [runE, mapE, listE, initT_5, initT_6, initT_7, initT_8, resV, oneV, binA, unA, reduceCtorEq, Nat.reduceEqDiff, Nat.reduceAdd, Nat.reduceLT, Nat.reduceLeDiff, Nat.reduceMul, Nat.reduceSub, ↓reduceIte, decide_true, decide_false, Bool.true_eq_false, Bool.false_eq_true, Bool.not_true, Bool.not_false, if_true, if_false, and_true, true_and, memE, celE, w64, Nat.zero_add, Nat.add_zero, Nat.mul_one, putL, and_self, ldn, t1, t2, t3, t7, t8, bsl_one, happ]
    refine ⟨⟨i + 1, _, M2.length + 1, by omega, rfl, ((hX2.dead (by omega)).one _ _).one _ _, hb2.at_ (same_gen (by omega) hidl), by have := hX2.len; omega, ?_, rfl, by congr 1; simp; omega⟩, ?_⟩
    · rw [take_next (by omega)]
      exact OwnB.here (by simp)
    · simp [intOf]; omega
  · have hlt' : ¬ (p.floor + (i : Int) ≤ 10) := by omega
    simp (config := {implicitDefEqProofs := false, maxDischargeDepth := 20}) (disch := first | omega | (simp only [lenE]; done) | (simp only [lenE]; omega) | rfl | (simp only [lenE, markR_len]; done) | (simp only [lenE, markR_len]; omega)) only [runE, mapE, listE, initT_5, initT_6, initT_7, initT_8, resV, oneV, binA, unA, reduceCtorEq, Nat.reduceEqDiff, Nat.reduceAdd, Nat.reduceLT, Nat.reduceLeDiff, Nat.reduceMul, Nat.reduceSub, ↓reduceIte, decide_true, decide_false, Bool.true_eq_false, Bool.false_eq_true, Bool.not_true, Bool.not_false, if_true, if_false, and_true, true_and, memE, celE, w64, Nat.zero_add, Nat.add_zero, Nat.mul_one, putL, and_self, ldn, tm, t1, t2, t3, t7, t8, hlt']
    rw [List.take_of_length_le (by omega)] at ho
    have e : i = (billsL p next n).length := by omega
    rw [e]
    exact ext_ansO (f := _root_.id) hX fun M' hM => IntsA.ownO (ho.at_ (hM _ (by omega) ho.lt)) (by omega) (by omega) ho.lt
theorem billsOf_rc (m : Mem) (v vn : Value) (p : Pr) (next : List Int) (t : Int) (n : Nat) (h : ProcA m v p) (hn : IntsA m vn next) (hg : GoodP p) (hl : next.length = 21) (hB : rowIn 30000000000000000 next) (ht : p.turns - t = (n : Int) + 1) (ht0 : 0 ≤ t) (hn4 : n ≤ 4) :
    RC Try.prog 34 [v, .int .i64 t, vn] m (AnsO m (IntsO (billsL p next n)) id) := by
  refine rc_of_run mixed ok_impl_billsOf (by simp) (go_start _ _ _ ?_)
  obtain ⟨u, rfl, hu⟩ := h.ro
  have hfl := hg.floor
  have hlen := hg.len
  have htu := hg.turns
  have hflo : p.floor = (p.w.length : Int) - 11 := by unfold Pr.floor; omega
  have hbl := billsL_len p next n
  simp (config := {implicitDefEqProofs := false, maxDischargeDepth := 20}) (disch := first | omega | (simp only [lenE]; done) | (simp only [lenE]; omega) | rfl | (simp only [lenE, markR_len]; done) | (simp only [lenE, markR_len]; omega)) only [runE, mapE, listE, initT_5, initT_6, initT_7, initT_8, resV, oneV, binA, unA, reduceCtorEq, Nat.reduceEqDiff, Nat.reduceAdd, Nat.reduceLT, Nat.reduceLeDiff, Nat.reduceMul, Nat.reduceSub, ↓reduceIte, decide_true, decide_false, Bool.true_eq_false, Bool.false_eq_true, Bool.not_true, Bool.not_false, if_true, if_false, and_true, true_and, memE, celE, w64, Nat.zero_add, Nat.add_zero, Nat.mul_one, putL, and_self, ldn, c_impl_billsOf, r_impl_billsOf, bsl_none]
  refine callH_rc (floorOf_rc _ _ p (ProcA.mk ((hu.ext _).ext _)) hlen.2) ?_
  rintro r new ⟨rfl, nr⟩
  simp (config := {implicitDefEqProofs := false, maxDischargeDepth := 20}) (disch := first | omega | (simp only [lenE]; done) | (simp only [lenE]; omega) | rfl | (simp only [lenE, markR_len]; done) | (simp only [lenE, markR_len]; omega)) only [runE, mapE, listE, initT_5, initT_6, initT_7, initT_8, resV, oneV, binA, unA, reduceCtorEq, Nat.reduceEqDiff, Nat.reduceAdd, Nat.reduceLT, Nat.reduceLeDiff, Nat.reduceMul, Nat.reduceSub, ↓reduceIte, decide_true, decide_false, Bool.true_eq_false, Bool.false_eq_true, Bool.not_true, Bool.not_false, if_true, if_false, and_true, true_and, memE, celE, w64, Nat.zero_add, Nat.add_zero, Nat.mul_one, putL, and_self, ldn]
  refine loop_inv mixed (fun s => ∃ (i : Nat) (M : Mem) (id : Nat), i ≤ 22 - p.w.length ∧ s.m = M ∧ Ext m M ∧ OwnB M m.length 26 [.int .i64 p.turns, u, .int .i64 p.setup, .int .i64 p.unit, .int .i64 p.hold, .int .i64 p.back] ∧ m.length < id ∧ OwnR M id ((billsL p next n).take i) ∧
      s.t 1 = .int .i64 t ∧ s.t 2 = vn ∧ s.t 3 = .pointer (some ⟨m.length, 0, none⟩) ∧ s.t 7 = .slice (some ⟨id, 0, none⟩) i 1 ∧ s.t 8 = .int .i64 (p.floor + i)) (fun s => (20 - intOf (s.t 8)).toNat)
    ⟨0, _, m.length + 1, by omega, rfl, (((Ext.refl m).one _ _).one _ _).app nr, ((OwnB.here (roM_len m).symm).ext _).ext _, by omega, OwnR.ext (by have := OwnR.at_end (roM m ++ [⟨.own, 26, [.int .i64 p.turns, u, .int .i64 p.setup, .int .i64 p.unit, .int .i64 p.hold, .int .i64 p.back]⟩]) []; simpa [roM_len] using this) new, rfl, rfl, rfl, rfl, by simp only [put_t, put_t', put_m, putT_t, putT_t', putT_m, init_t, init_m, initT_0, initT_1, initT_2, initT_3, initT_4, initT_5, initT_6, initT_7, initT_8, Nat.reduceEqDiff, ↓reduceIte]; simp⟩ ?_
  rintro s ⟨i, M, id, hi, tm, hX, hb, hid, ho, t1, t2, t3, t7, t8⟩
  by_cases hlt : i < 22 - p.w.length
  · have hlt' : p.floor + (i : Int) ≤ 10 := by omega
    have hmay : p.may (p.floor + i) := ⟨by omega, hlt'⟩
    have hm := pmul_in hg (y := p.floor + i) (by omega) (n := n + 1) (by omega)
    have hbd := bill_bd hg hB hn4 hmay
    simp (config := {implicitDefEqProofs := false, maxDischargeDepth := 20}) (disch := first | omega | (simp only [lenE]; done) | (simp only [lenE]; omega) | rfl | (simp only [lenE, markR_len]; done) | (simp only [lenE, markR_len]; omega)) only [runE, mapE, listE, initT_5, initT_6, initT_7, initT_8, resV, oneV, binA, unA, reduceCtorEq, Nat.reduceEqDiff, Nat.reduceAdd, Nat.reduceLT, Nat.reduceLeDiff, Nat.reduceMul, Nat.reduceSub, ↓reduceIte, decide_true, decide_false, Bool.true_eq_false, Bool.false_eq_true, Bool.not_true, Bool.not_false, if_true, if_false, and_true, true_and, memE, celE, w64, Nat.zero_add, Nat.add_zero, Nat.mul_one, putL, and_self, ldn, tm, t1, t2, t3, t7, t8, hlt', hb.rd]
    refine rcallH_rc (powerFrom_rc M _ p t (n + 1) (ProcA.mk (hX.ints hu)) hg (by omega) (by omega)) ?_
    rintro r n1 ⟨rfl, nr1⟩
    have hb1 := hb.ext n1
    have hX1 := hX.app nr1
    simp (config := {implicitDefEqProofs := false, maxDischargeDepth := 20}) (disch := first | omega | (simp only [lenE]; done) | (simp only [lenE]; omega) | rfl | (simp only [lenE, markR_len]; done) | (simp only [lenE, markR_len]; omega)) only [runE, mapE, listE, initT_5, initT_6, initT_7, initT_8, resV, oneV, binA, unA, reduceCtorEq, Nat.reduceEqDiff, Nat.reduceAdd, Nat.reduceLT, Nat.reduceLeDiff, Nat.reduceMul, Nat.reduceSub, ↓reduceIte, decide_true, decide_false, Bool.true_eq_false, Bool.false_eq_true, Bool.not_true, Bool.not_false, if_true, if_false, and_true, true_and, memE, celE, w64, Nat.zero_add, Nat.add_zero, Nat.mul_one, putL, and_self, ldn, t1, t2, t3, t7, t8, hb1.rd]
    refine rcallH_rc (askedCost_rc (M ++ n1) _ vn p next t (p.floor + i) n (ProcA.mk (hX1.ints hu)) (hn.xt2 hX1) hg hl hB hmay ht ht0 hn4) ?_
    rintro r n2 ⟨rfl, nr2⟩
    have ho2 := (ho.ext n1).ext n2
    have hidl := ho2.lt
    have hbv : p.unit * (p.floor + i) * p.pow (n + 1) + p.after next (p.floor + i) n = (billsL p next n).getD i 0 := (billsL_at hlt).symm
    have happ := app_num (x := (billsL p next n).getD i 0) (id2 := (M ++ n1 ++ n2).length) (n := i) ho2 (by rw [List.length_take]; omega) rfl (by rw [List.length_take]; omega)
    obtain ⟨M2, hM2⟩ : ∃ M', M' = M ++ n1 ++ n2 := ⟨_, rfl⟩
    have hX2 : Ext m M2 := by rw [hM2]; exact hX1.app nr2
    have hb2 := hb1.ext n2
    rw [← hM2] at happ hidl hb2
    rw [← hM2]
    simp (config := {implicitDefEqProofs := false, maxDischargeDepth := 20}) (disch := first | omega | (simp only [lenE]; done) | (simp only [lenE]; omega) | rfl | (simp only [lenE, markR_len]; done) | (simp only [lenE, markR_len]; omega)) only [runE, mapE, listE, initT_5, initT_6, initT_7, initT_8, resV, oneV, binA, unA, reduceCtorEq, Nat.reduceEqDiff, Nat.reduceAdd, Nat.reduceLT, Nat.reduceLeDiff, Nat.reduceMul, Nat.reduceSub, ↓reduceIte, decide_true, decide_false, Bool.true_eq_false, Bool.false_eq_true, Bool.not_true, Bool.not_false, if_true, if_false, and_true, true_and, memE, celE, w64, Nat.zero_add, Nat.add_zero, Nat.mul_one, putL, and_self, ldn, t1, t2, t3, t7, t8, hbv, bsl_one, happ]
    refine ⟨⟨i + 1, _, M2.length + 1, by omega, rfl, ((hX2.dead (by omega)).one _ _).one _ _, hb2.at_ (same_gen (by omega) hidl), by have := hX2.len; omega, ?_, rfl, by congr 1; simp; omega⟩, ?_⟩
    · rw [take_next (by omega)]
      exact OwnB.here (by simp)
    · simp [intOf]; omega
  · have hlt' : ¬ (p.floor + (i : Int) ≤ 10) := by omega
    simp (config := {implicitDefEqProofs := false, maxDischargeDepth := 20}) (disch := first | omega | (simp only [lenE]; done) | (simp only [lenE]; omega) | rfl | (simp only [lenE, markR_len]; done) | (simp only [lenE, markR_len]; omega)) only [runE, mapE, listE, initT_5, initT_6, initT_7, initT_8, resV, oneV, binA, unA, reduceCtorEq, Nat.reduceEqDiff, Nat.reduceAdd, Nat.reduceLT, Nat.reduceLeDiff, Nat.reduceMul, Nat.reduceSub, ↓reduceIte, decide_true, decide_false, Bool.true_eq_false, Bool.false_eq_true, Bool.not_true, Bool.not_false, if_true, if_false, and_true, true_and, memE, celE, w64, Nat.zero_add, Nat.add_zero, Nat.mul_one, putL, and_self, ldn, tm, t1, t2, t3, t7, t8, hlt']
    rw [List.take_of_length_le (by omega)] at ho
    have e : i = (billsL p next n).length := by omega
    rw [e]
    exact ext_ansO (f := _root_.id) hX fun M' hM => IntsA.ownO (ho.at_ (hM _ (by omega) ho.lt)) (by omega) (by omega) ho.lt
def billsA (p : Pr) (t : Int) : List Int := if turnB p t then billsL p (p.rowsN p.bestC (p.turns - 1 - t).toNat) (p.turns - 1 - t).toNat else []
theorem implBillsOf_rc (m : Mem) (v : Value) (p : Pr) (t : Int) (h : ProcA m v p) : RC Try.prog 8 [v, .int .i64 t] m (AnsO m (IntsO (billsA p t)) fun v => .tuple #[v, .bool (turnB p t)]) := by
  refine rc_of_run mixed ok_impl_BillsOf (by simp) (go_start _ _ _ ?_)
  obtain ⟨u, rfl, hu⟩ := h.ro
  unfold billsA
  simp (config := {implicitDefEqProofs := false, maxDischargeDepth := 20}) (disch := first | omega | (simp only [lenE]; done) | (simp only [lenE]; omega) | rfl | (simp only [lenE, markR_len]; done) | (simp only [lenE, markR_len]; omega)) only [runE, mapE, listE, initT_5, initT_6, initT_7, initT_8, resV, oneV, binA, unA, reduceCtorEq, Nat.reduceEqDiff, Nat.reduceAdd, Nat.reduceLT, Nat.reduceLeDiff, Nat.reduceMul, Nat.reduceSub, ↓reduceIte, decide_true, decide_false, Bool.true_eq_false, Bool.false_eq_true, Bool.not_true, Bool.not_false, if_true, if_false, and_true, true_and, memE, celE, w64, Nat.zero_add, Nat.add_zero, Nat.mul_one, putL, and_self, ldn, c_impl_BillsOf, r_impl_BillsOf]
  refine callH_rc (isTurn_rc _ _ p t (ProcA.mk (hu.ext _))) ?_
  rintro r n1 ⟨rfl, nr1⟩
  cases b1 : turnB p t with
  | false =>
    simp (config := {implicitDefEqProofs := false, maxDischargeDepth := 20}) (disch := first | omega | (simp only [lenE]; done) | (simp only [lenE]; omega) | rfl | (simp only [lenE, markR_len]; done) | (simp only [lenE, markR_len]; omega)) only [runE, mapE, listE, initT_5, initT_6, initT_7, initT_8, resV, oneV, binA, unA, reduceCtorEq, Nat.reduceEqDiff, Nat.reduceAdd, Nat.reduceLT, Nat.reduceLeDiff, Nat.reduceMul, Nat.reduceSub, ↓reduceIte, decide_true, decide_false, Bool.true_eq_false, Bool.false_eq_true, Bool.not_true, Bool.not_false, if_true, if_false, and_true, true_and, memE, celE, w64, Nat.zero_add, Nat.add_zero, Nat.mul_one, putL, and_self, ldn, bsl_no]
    exact ext_noInts (f := fun v => .tuple #[v, .bool false]) (((Ext.refl m).one _ _).app nr1) (by simp [roM_len]; omega)
  | true =>
    simp only [turnB, Bool.and_eq_true, inZ, decide_eq_true_eq] at b1
    have hG := goodP_iff.1 b1.1
    have ht := hG.turns
    simp (config := {implicitDefEqProofs := false, maxDischargeDepth := 20}) (disch := first | omega | (simp only [lenE]; done) | (simp only [lenE]; omega) | rfl | (simp only [lenE, markR_len]; done) | (simp only [lenE, markR_len]; omega)) only [runE, mapE, listE, initT_5, initT_6, initT_7, initT_8, resV, oneV, binA, unA, reduceCtorEq, Nat.reduceEqDiff, Nat.reduceAdd, Nat.reduceLT, Nat.reduceLeDiff, Nat.reduceMul, Nat.reduceSub, ↓reduceIte, decide_true, decide_false, Bool.true_eq_false, Bool.false_eq_true, Bool.not_true, Bool.not_false, if_true, if_false, and_true, true_and, memE, celE, w64, Nat.zero_add, Nat.add_zero, Nat.mul_one, putL, and_self, ldn]
    refine rcallH_rc (worthTable_rc _ _ p (ProcA.mk ((hu.ext _).ext _)) hG) ?_
    rintro r n3 ⟨nr3, w, rfl, hw⟩
    obtain ⟨a1, y, a2, a3⟩ := next_row hw.now (z := t + 1) (j := (t + 1).toNat) (by omega) (by omega)
    rw [show p.turns.toNat - (t + 1).toNat = (p.turns - 1 - t).toNat by omega] at a3
    simp (config := {implicitDefEqProofs := false, maxDischargeDepth := 20}) (disch := first | omega | (simp only [lenE]; done) | (simp only [lenE]; omega) | rfl | (simp only [lenE, markR_len]; done) | (simp only [lenE, markR_len]; omega)) only [runE, mapE, listE, initT_5, initT_6, initT_7, initT_8, resV, oneV, binA, unA, reduceCtorEq, Nat.reduceEqDiff, Nat.reduceAdd, Nat.reduceLT, Nat.reduceLeDiff, Nat.reduceMul, Nat.reduceSub, ↓reduceIte, decide_true, decide_false, Bool.true_eq_false, Bool.false_eq_true, Bool.not_true, Bool.not_false, if_true, if_false, and_true, true_and, memE, celE, w64, Nat.zero_add, Nat.add_zero, Nat.mul_one, putL, and_self, ldn, id_eq, a1, a2]
    refine rcallH_rc (billsOf_rc _ _ _ p _ t (p.turns - 1 - t).toNat (ProcA.mk (((hu.ext _).ext _).ext _)) a3 hG (Pr.rowsN_len _ _ _) (Pr.rows_big hG (by omega) (Pr.best_fair hG 5) (k := (p.turns - 1 - t).toNat) (by omega)) (by omega) (by omega) (by omega)) ?_
    rintro r n4 ⟨nr4, w2, rfl, hw2⟩
    simp (config := {implicitDefEqProofs := false, maxDischargeDepth := 20}) (disch := first | omega | (simp only [lenE]; done) | (simp only [lenE]; omega) | rfl | (simp only [lenE, markR_len]; done) | (simp only [lenE, markR_len]; omega)) only [runE, mapE, listE, initT_5, initT_6, initT_7, initT_8, resV, oneV, binA, unA, reduceCtorEq, Nat.reduceEqDiff, Nat.reduceAdd, Nat.reduceLT, Nat.reduceLeDiff, Nat.reduceMul, Nat.reduceSub, ↓reduceIte, decide_true, decide_false, Bool.true_eq_false, Bool.false_eq_true, Bool.not_true, Bool.not_false, if_true, if_false, and_true, true_and, memE, celE, w64, Nat.zero_add, Nat.add_zero, Nat.mul_one, putL, and_self, ldn, id_eq]
    exact ((((Ext.refl m).one _ _).app nr1).app nr3).pass (f := fun v => .tuple #[v, .bool true]) nr4 (IntsO.wide _) hw2
theorem specBillsOf_rc (m : Mem) (v : Value) (p : Pr) (t : Int) (h : ProcA m v p) : RC Try.prog 9 [v, .int .i64 t] m (AnsO m (IntsO (billsA p t)) fun v => .tuple #[v, .bool (turnB p t)]) := by
  refine rc_of_run mixed ok_spec_BillsOf (by simp) (go_start _ _ _ ?_)
  obtain ⟨u, rfl, hu⟩ := h.ro
  unfold billsA
  simp (config := {implicitDefEqProofs := false, maxDischargeDepth := 20}) (disch := first | omega | (simp only [lenE]; done) | (simp only [lenE]; omega) | rfl | (simp only [lenE, markR_len]; done) | (simp only [lenE, markR_len]; omega)) only [runE, mapE, listE, initT_5, initT_6, initT_7, initT_8, resV, oneV, binA, unA, reduceCtorEq, Nat.reduceEqDiff, Nat.reduceAdd, Nat.reduceLT, Nat.reduceLeDiff, Nat.reduceMul, Nat.reduceSub, ↓reduceIte, decide_true, decide_false, Bool.true_eq_false, Bool.false_eq_true, Bool.not_true, Bool.not_false, if_true, if_false, and_true, true_and, memE, celE, w64, Nat.zero_add, Nat.add_zero, Nat.mul_one, putL, and_self, ldn, c_spec_BillsOf, r_spec_BillsOf]
  refine callH_rc (l6Turn_rc _ _ p t (ProcA.mk (hu.ext _))) ?_
  rintro r n1 ⟨rfl, nr1⟩
  cases b1 : turnB p t with
  | false =>
    simp (config := {implicitDefEqProofs := false, maxDischargeDepth := 20}) (disch := first | omega | (simp only [lenE]; done) | (simp only [lenE]; omega) | rfl | (simp only [lenE, markR_len]; done) | (simp only [lenE, markR_len]; omega)) only [runE, mapE, listE, initT_5, initT_6, initT_7, initT_8, resV, oneV, binA, unA, reduceCtorEq, Nat.reduceEqDiff, Nat.reduceAdd, Nat.reduceLT, Nat.reduceLeDiff, Nat.reduceMul, Nat.reduceSub, ↓reduceIte, decide_true, decide_false, Bool.true_eq_false, Bool.false_eq_true, Bool.not_true, Bool.not_false, if_true, if_false, and_true, true_and, memE, celE, w64, Nat.zero_add, Nat.add_zero, Nat.mul_one, putL, and_self, ldn, bsl_no]
    exact ext_noInts (f := fun v => .tuple #[v, .bool false]) (((Ext.refl m).one _ _).app nr1) (by simp [roM_len]; omega)
  | true =>
    simp only [turnB, Bool.and_eq_true, inZ, decide_eq_true_eq] at b1
    have hG := goodP_iff.1 b1.1
    have ht := hG.turns
    simp (config := {implicitDefEqProofs := false, maxDischargeDepth := 20}) (disch := first | omega | (simp only [lenE]; done) | (simp only [lenE]; omega) | rfl | (simp only [lenE, markR_len]; done) | (simp only [lenE, markR_len]; omega)) only [runE, mapE, listE, initT_5, initT_6, initT_7, initT_8, resV, oneV, binA, unA, reduceCtorEq, Nat.reduceEqDiff, Nat.reduceAdd, Nat.reduceLT, Nat.reduceLeDiff, Nat.reduceMul, Nat.reduceSub, ↓reduceIte, decide_true, decide_false, Bool.true_eq_false, Bool.false_eq_true, Bool.not_true, Bool.not_false, if_true, if_false, and_true, true_and, memE, celE, w64, Nat.zero_add, Nat.add_zero, Nat.mul_one, putL, and_self, ldn]
    refine rcallH_rc (l6Worths_rc _ _ p (ProcA.mk ((hu.ext _).ext _)) hG) ?_
    rintro r n3 ⟨nr3, w, rfl, hw⟩
    simp (config := {implicitDefEqProofs := false, maxDischargeDepth := 20}) (disch := first | omega | (simp only [lenE]; done) | (simp only [lenE]; omega) | rfl | (simp only [lenE, markR_len]; done) | (simp only [lenE, markR_len]; omega)) only [runE, mapE, listE, initT_5, initT_6, initT_7, initT_8, resV, oneV, binA, unA, reduceCtorEq, Nat.reduceEqDiff, Nat.reduceAdd, Nat.reduceLT, Nat.reduceLeDiff, Nat.reduceMul, Nat.reduceSub, ↓reduceIte, decide_true, decide_false, Bool.true_eq_false, Bool.false_eq_true, Bool.not_true, Bool.not_false, if_true, if_false, and_true, true_and, memE, celE, w64, Nat.zero_add, Nat.add_zero, Nat.mul_one, putL, and_self, ldn, id_eq]
    have hrow : (p.tab p.bestC p.turns.toNat).getD (t + 1).toNat [] = p.rowsN p.bestC (p.turns - 1 - t).toNat := by
      rw [Pr.tab_at p _ (by omega)]; congr 1; omega
    refine rcallH_rc (l6Bills_rc _ _ _ p _ _ t (p.turns - 1 - t).toNat (ProcA.mk (((hu.ext _).ext _).ext _)) hw.now.in hG hrow (by rw [Pr.tab_len]; omega) (Pr.rowsN_len _ _ _) (Pr.rows_big hG (by omega) (Pr.best_fair hG 5) (k := (p.turns - 1 - t).toNat) (by omega)) (by omega) (by omega) (by omega)) ?_
    rintro r n4 ⟨nr4, w2, rfl, hw2⟩
    simp (config := {implicitDefEqProofs := false, maxDischargeDepth := 20}) (disch := first | omega | (simp only [lenE]; done) | (simp only [lenE]; omega) | rfl | (simp only [lenE, markR_len]; done) | (simp only [lenE, markR_len]; omega)) only [runE, mapE, listE, initT_5, initT_6, initT_7, initT_8, resV, oneV, binA, unA, reduceCtorEq, Nat.reduceEqDiff, Nat.reduceAdd, Nat.reduceLT, Nat.reduceLeDiff, Nat.reduceMul, Nat.reduceSub, ↓reduceIte, decide_true, decide_false, Bool.true_eq_false, Bool.false_eq_true, Bool.not_true, Bool.not_false, if_true, if_false, and_true, true_and, memE, celE, w64, Nat.zero_add, Nat.add_zero, Nat.mul_one, putL, and_self, ldn, id_eq]
    exact ((((Ext.refl m).one _ _).app nr1).app nr3).pass (f := fun v => .tuple #[v, .bool true]) nr4 (IntsO.wide _) hw2
end Go.Proofs.Ytckpfgkgigicpaa.Ab
end
section
namespace Go.Proofs.Ytckpfgkgigicpaa.Ab
open Go Go.RowKit
set_option linter.unusedVariables false
set_option linter.unusedSimpArgs false
abbrev pairV (q : Int × Int) : Value := .agg #[.int .i64 q.1, .int .i64 q.2]
end Go.Proofs.Ytckpfgkgigicpaa.Ab
end
