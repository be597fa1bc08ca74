/- The best lots from a period on, with those that are known. -/
import Derived.Test.YtonpeflncnccdaaAbApp
import Derived.Test.YtonpeflncnccdaaAbSpan
import Derived.Test.YtonpeflncnccdaaAbCmp
namespace Go.Proofs.Ytonpeflncnccdaa.Ab
open Go Go.RowKit
set_option linter.unusedVariables false
set_option linter.unusedSimpArgs false

/-- What a memory keeps of an earlier one, but for one block. -/
structure Gw (mid : Nat) (m m' : Mem) : Prop where
  len : m.length ≤ m'.length
  old : ∀ id, id < m.length → id ≠ mid → m'[id]? = m[id]?
  new : ∀ id b, m.length ≤ id → m'[id]? = some b → b.kd ≠ .ro
  at_ : ∀ b, m'[mid]? = some b → b.kd ≠ .ro
theorem Gw.refl {mid : Nat} {m : Mem} (h : ∀ b, m[mid]? = some b → b.kd ≠ .ro) : Gw mid m m :=
  ⟨Nat.le_refl _, fun _ _ _ => rfl, fun id b h1 h2 => absurd (List.getElem?_eq_some_iff.1 h2).1 (by omega), h⟩
theorem Gw.app {mid : Nat} {m m' new : Mem} (h : Gw mid m m') (hn : NoRo new) : Gw mid m (m' ++ new) := by
  have key : ∀ (id : Nat) (b : Blk), (m' ++ new)[id]? = some b → m'[id]? = some b ∨ b.kd ≠ .ro := by
    intro id b hb
    by_cases hi : id < m'.length
    · rw [List.getElem?_append_left hi] at hb; exact .inl hb
    · rw [List.getElem?_append_right (by omega)] at hb; exact .inr (hn b (List.mem_of_getElem? hb))
  refine ⟨by rw [List.length_append]; have := h.len; omega, fun id h1 h2 => ?_, fun id b h1 h2 => ?_, fun b h2 => ?_⟩
  · rw [List.getElem?_append_left (by have := h.len; omega)]; exact h.old id h1 h2
  · rcases key id b h2 with h3 | h3
    · exact h.new id b h1 h3
    · exact h3
  · rcases key mid b h2 with h3 | h3
    · exact h.at_ b h3
    · exact h3
theorem Gw.one {mid : Nat} {m m' : Mem} (h : Gw mid m m') (e : TypeId) (cs : List Value) : Gw mid m (m' ++ [⟨.own, e, cs⟩]) := h.app (noRo_own noRo_nil)
theorem Gw.set {mid : Nat} {m m' : Mem} (h : Gw mid m m') {id : Nat} {b : Blk} (hid : m.length ≤ id ∨ id = mid) (hb : b.kd ≠ .ro) : Gw mid m (m'.set id b) := by
  refine ⟨by rw [List.length_set]; exact h.len, fun i h1 h2 => ?_, fun i b2 h1 h2 => ?_, fun b2 h2 => ?_⟩
  · rw [List.getElem?_set_ne (by omega)]; exact h.old i h1 h2
  · rcases at_set h2 with ⟨_, h3⟩ | ⟨_, h3, _⟩
    · exact h.new i b2 h1 h3
    · rw [← h3]; exact hb
  · rcases at_set h2 with ⟨_, h3⟩ | ⟨_, h3, _⟩
    · exact h.at_ b2 h3
    · rw [← h3]; exact hb
theorem Gw.trans {mid : Nat} {a b c : Mem} (h : Gw mid a b) (h' : Gw mid b c) : Gw mid a c := by
  have l1 := h.len
  have l2 := h'.len
  refine ⟨by omega, fun i h1 h2 => (h'.old i (by omega) h2).trans (h.old i h1 h2), fun i x h1 h2 => ?_, h'.at_⟩
  by_cases e : i = mid
  · subst e; exact h'.at_ x h2
  · by_cases hi : i < b.length
    · rw [h'.old i hi e] at h2; exact h.new i x h1 h2
    · exact h'.new i x (by omega) h2
theorem Gw.blk {mid : Nat} {m m' : Mem} (h : Gw mid m m') {id : Nat} {b : Blk} (hb : m[id]? = some b) (hne : id ≠ mid) : m'[id]? = some b := by
  rw [h.old id (List.getElem?_eq_some_iff.1 hb).1 hne]; exact hb
theorem rdc_blk {m : Mem} {id k : Nat} {v : Value} (h : rdc m id k = some v) : ∃ b, m[id]? = some b ∧ b.kd ≠ .dead := by
  unfold rdc at h
  cases hm : m[id]? with
  | none => rw [hm] at h; cases h
  | some b =>
    rw [hm] at h
    refine ⟨b, rfl, fun e => ?_⟩
    simp only [e, if_true] at h
    cases h
theorem Gw.rd {mid : Nat} {m m' : Mem} (h : Gw mid m m') {e : TypeId} {cs : List Value} (hd : m[mid]? = some ⟨.dead, e, cs⟩) {id k : Nat} {v : Value} (hv : rdc m id k = some v) : rdc m' id k = some v := by
  obtain ⟨b, hb, hk⟩ := rdc_blk hv
  have hne : id ≠ mid := fun e => by subst e; rw [hd] at hb; cases hb; exact hk rfl
  unfold rdc at hv ⊢
  rw [h.old id (List.getElem?_eq_some_iff.1 hb).1 hne]; exact hv
theorem IntsA.of_at {m m' : Mem} {id off n fl : Nat} {l : List Int} (h : IntsA m (.slice (some ⟨id, off, none⟩) n fl) l) (e : m'[id]? = m[id]?) : IntsA m' (.slice (some ⟨id, off, none⟩) n fl) l := by
  refine ⟨h.len, h.bd, h.at_, fun k hk => ?_, ?_⟩
  · have := h.ld k hk
    simp only [pAt, ldA, rdc] at this ⊢
    rw [e]; exact this
  · have := h.src
    simp only [slR, rdl] at this ⊢
    rw [e]; exact this
theorem Gw.ints {mid : Nat} {m m' : Mem} (h : Gw mid m m') {e : TypeId} {cs : List Value} (hd : m[mid]? = some ⟨.dead, e, cs⟩) {v : Value} {l : List Int} (hi : IntsA m v l) : IntsA m' v l := by
  rcases hi.form with ⟨rfl, rfl⟩ | ⟨id, off, fl, rfl⟩
  · exact IntsA.nil m'
  · have hs := hi.src
    simp only [slR, rdl] at hs
    cases hb : m[id]? with
    | none => rw [hb] at hs; cases hs
    | some b =>
      rw [hb] at hs
      refine hi.of_at (h.old id (List.getElem?_eq_some_iff.1 hb).1 fun e2 => ?_)
      subst e2
      rw [hd] at hb
      cases hb
      simp at hs
theorem Gw.case {mid : Nat} {m m' : Mem} (h : Gw mid m m') {e : TypeId} {cs : List Value} (hd : m[mid]? = some ⟨.dead, e, cs⟩) {v : Value} {k : Cs} (hk : CaseA m v k) : CaseA m' v k := by
  obtain ⟨v1, v2, v3, v4, e0, h1, h2, h3, h4⟩ := hk.ok
  exact ⟨v1, v2, v3, v4, e0, h.ints hd h1, h.ints hd h2, h.ints hd h3, h.ints hd h4⟩
theorem Gw.own {mid : Nat} {m m' : Mem} (h : Gw mid m m') {e : TypeId} {cs : List Value} (hd : m[mid]? = some ⟨.dead, e, cs⟩) {id : Nat} {l : List Int} (ho : OwnR m id l) : OwnR m' id l := by
  refine h.blk ho fun e2 => ?_
  subst e2
  have : m[id]? = some (rowB l) := ho
  rw [hd] at this
  cases this
/-- A row of one's own, or none. -/
def RowV (M : Mem) (v : Value) (l : List Int) : Prop := (v = .slice none 0 0 ∧ l = []) ∨ ∃ id fl, v = .slice (some ⟨id, 0, none⟩) l.length fl ∧ OwnR M id l ∧ l.length ≤ 1048576
theorem RowV.ints {M : Mem} {v : Value} {l : List Int} (h : RowV M v l) : IntsA M v l := by
  rcases h with ⟨rfl, rfl⟩ | ⟨id, fl, rfl, ho, hl⟩
  · exact IntsA.nil M
  · exact ho.ints (by omega) fl
theorem RowV.keep {M M' : Mem} {v : Value} {l : List Int} (h : RowV M v l) (hk : ∀ id l, OwnR M id l → OwnR M' id l) : RowV M' v l := by
  rcases h with h | ⟨id, fl, h1, ho, hl⟩
  · exact .inl h
  · exact .inr ⟨id, fl, h1, hk id l ho, hl⟩
def LotV (M : Mem) (v : Value) (c : Int) (l : List Int) : Prop := ∃ A ln cp, v = .agg #[.int .i64 c, .slice A ln cp] ∧ RowV M (.slice A ln cp) l
theorem LotV.keep {M M' : Mem} {v : Value} {c : Int} {l : List Int} (h : LotV M v c l) (hk : ∀ id l, OwnR M id l → OwnR M' id l) : LotV M' v c l := by
  obtain ⟨A, ln, cp, h1, h2⟩ := h
  exact ⟨A, ln, cp, h1, h2.keep hk⟩
/-- The map of what is known. -/
structure MG (k : Cs) (mid : Nat) (e : TypeId) (es : List Value) (M : Mem) : Prop where
  mp : M[mid]? = some ⟨.dead, e, .bool true :: es⟩
  ok : ∀ x v, lkE es x = some v → ∃ j : Nat, x = j ∧ j ≤ k.need.length ∧ LotV M v (costL k k.need.length (dp k k.need.length j)) (dp k k.need.length j)
  end_ : (lkE es k.need.length).isSome = true
theorem MG.keep {k : Cs} {mid : Nat} {e : TypeId} {es : List Value} {M M' : Mem} (h : MG k mid e es M) (hm : M'[mid]? = M[mid]?) (hk : ∀ id l, OwnR M id l → OwnR M' id l) : MG k mid e es M' :=
  ⟨hm.trans h.mp, fun x v hv => by obtain ⟨j, h1, h2, h3⟩ := h.ok x v hv; exact ⟨j, h1, h2, h3.keep hk⟩, h.end_⟩
theorem MG.app {k : Cs} {mid : Nat} {e : TypeId} {es : List Value} {M : Mem} (h : MG k mid e es M) (R : Mem) : MG k mid e es (M ++ R) :=
  h.keep (List.getElem?_append_left (List.getElem?_eq_some_iff.1 h.mp).1) fun id l ho => ho.ext R
theorem MG.box {k : Cs} {mid : Nat} {e : TypeId} {es : List Value} {M : Mem} (h : MG k mid e es M) {id : Nat} {t : TypeId} {cs : List Value} {b : Blk} (hb : M[id]? = some ⟨.own, t, cs⟩) (ht : t ≠ 3) : MG k mid e es (M.set id b) := by
  refine h.keep (List.getElem?_set_ne fun e2 => ?_) fun i l ho => ho.set_ne fun e2 => ?_
  · subst e2; have := h.mp; rw [hb] at this; cases this
  · subst e2
    have : M[id]? = some (rowB l) := ho
    rw [hb] at this
    cases this
    exact ht rfl
/-- What the function finds behind its captured variables. -/
structure LEnv (k : Cs) (v1 v2 v3 v4 : Value) (kb cb nb fb mid : Nat) (e : TypeId) (es : List Value) (m : Mem) : Prop where
  rk : rdc m kb 0 = some (.map (some mid))
  c0 : rdc m cb 0 = some v1
  c1 : rdc m cb 1 = some v2
  c2 : rdc m cb 2 = some v3
  c3 : rdc m cb 3 = some v4
  hc : CaseA m (.agg #[v1, v2, v3, v4]) k
  rn : rdc m nb 0 = some (.int .i64 k.need.length)
  rf : rdc m fb 0 = some (.func (.func 85) #[] #[.pointer (some ⟨kb, 0, none⟩), .pointer (some ⟨cb, 0, none⟩), .pointer (some ⟨nb, 0, none⟩), .pointer (some ⟨fb, 0, none⟩)])
  g : MG k mid e es m
theorem LEnv.gw {k : Cs} {v1 v2 v3 v4 : Value} {kb cb nb fb mid : Nat} {e : TypeId} {es es' : List Value} {m m' : Mem} (h : LEnv k v1 v2 v3 v4 kb cb nb fb mid e es m) (hg : Gw mid m m') (h2 : MG k mid e es' m') :
    LEnv k v1 v2 v3 v4 kb cb nb fb mid e es' m' :=
  ⟨hg.rd h.g.mp h.rk, hg.rd h.g.mp h.c0, hg.rd h.g.mp h.c1, hg.rd h.g.mp h.c2, hg.rd h.g.mp h.c3, hg.case h.g.mp h.hc, hg.rd h.g.mp h.rn, hg.rd h.g.mp h.rf, h2⟩
theorem rdc_lt {m : Mem} {id k : Nat} {v : Value} (h : rdc m id k = some v) : id < m.length := by
  obtain ⟨b, hb, _⟩ := rdc_blk h
  exact (List.getElem?_eq_some_iff.1 hb).1
theorem lkA_mp {M : Mem} {mid : Nat} {e : TypeId} {es : List Value} (h : M[mid]? = some ⟨.dead, e, .bool true :: es⟩) (z : Value) (x : Int) : lkA M true z (.map (some mid)) (.int .i64 x) = some (.tuple #[(lkE es x).getD z, .bool (lkE es x).isSome]) := by
  simp [lkA, mapOf, mapB, h]
theorem mupA_mp {M : Mem} {mid : Nat} {e : TypeId} {es : List Value} (h : M[mid]? = some ⟨.dead, e, .bool true :: es⟩) {x : Int} (hx : lkE es x = none) (v : Value) : mupA M (.map (some mid)) (.int .i64 x) v = some (M.set mid ⟨.dead, e, .bool true :: (es ++ [.tuple #[.int .i64 x, v]])⟩) := by
  simp [mupA, mapOf, mapB, h, hx]
theorem lkE_app : ∀ (es : List Value) (x y : Int) (v : Value), lkE (es ++ [.tuple #[.int .i64 y, v]]) x = match lkE es x with
    | some u => some u
    | none => if y = x then some v else none := by
  intro es
  induction es with
  | nil => intro x y v; simp [lkE]
  | cons a es ih =>
    intro x y v
    rw [List.cons_append]
    cases a with
    | tuple q =>
      simp only [lkE]
      split
      · split
        · rfl
        · exact ih x y v
      · exact ih x y v
    | _ => exact ih x y v
theorem rd_own {M : Mem} {id k : Nat} {t : TypeId} {cs : List Value} (h : M[id]? = some ⟨.own, t, cs⟩) : rdc M id k = cs[k]? := by
  simp [rdc, h]
theorem st2_own {M : Mem} {id : Nat} {t : TypeId} {a b : Value} (h : M[id]? = some ⟨.own, t, [a, b]⟩) (x : Int) (A : Option Addr) (ln cp : Nat) : stA M id 0 [.int .i64 x, .slice A ln cp] = some (M.set id ⟨.own, t, [.int .i64 x, .slice A ln cp]⟩) := by
  simp [stA, h, onesB, Value.oneCell', putL]
theorem dp_beg {k : Cs} {n nx : Nat} (h : nx ≤ n) : beg n (dp k n nx) 0 = nx := ((dp_min k n (n - nx) nx (by omega)).1).2
theorem dp_rising {k : Cs} {n nx : Nat} (h : nx ≤ n) : Rising (dp k n nx) n := ((dp_min k n (n - nx) nx (by omega)).1).1
end Go.Proofs.Ytonpeflncnccdaa.Ab
