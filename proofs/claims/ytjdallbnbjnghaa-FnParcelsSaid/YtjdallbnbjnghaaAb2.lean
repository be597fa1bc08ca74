/- Regions, code, loops and functions over that memory: each is sound. -/
import Derived.Test.YtjdallbnbjnghaaAb1
namespace Go.Proofs.Ytjdallbnbjnghaa.Ab
open Go Go.RowKit
set_option linter.unusedVariables false
variable {W0 : World} {base : Nat} {ρ : Places} {m : Mem} {w : World} {n : Nat} {s : St} {a : Act} {P : Program} {lw : Nat}
/-- How an operation goes on. -/
def Goes (W0 : World) (base : Nat) (ρ : Places) (o : Oper) (a : Act) (K : Value → Mem → Prop) (next : Act → World → Prop) : Prop :=
  ∀ (v v' : Value) (m' : Mem) (ρ' : Places) (w' : World), K v m' → ρ <+: ρ' → MRel W0 base ρ' m' w' → VR ρ' v v' → next (a.put o.dst v') w'
theorem Goes.value {o : Oper} {K : Value → Mem → Prop} {next : Act → World → Prop} {Q : Exit → Act → World → Prop} {v v' : Value} {m' : Mem} {ρ' : Places} {w' : World} (g : Goes W0 base ρ o a K next)
    (hr : (execOp a.eval o).run P w = .ok (.value v') w') (hk : K v m') (hp : ρ <+: ρ') (hm : MRel W0 base ρ' m' w') (hv : VR ρ' v v') : o.wp P a w next Q := by
  unfold Oper.wp
  rw [hr]
  exact g v v' m' ρ' w' hk hp hm hv
theorem undef_rel (ρ : Places) : VR ρ undef undef := .tup rfl (fun i x y hx hy => by rw [hx] at hy; cases hy; simp at hx)
theorem VL.at2 {xs : List Value} {ds : Array Value} (h : VL ρ xs ds.toList) (k : Nat) (x : Value) (hx : xs[k]? = some x) : ∃ y, ds[k]? = some y ∧ VR ρ x y := by
  obtain ⟨y, hy, hv⟩ := h.at_ hx
  exact ⟨y, by simpa using hy, hv⟩
theorem putL_len (cs : List Value) (off : Nat) (vs : List Value) : (putL cs off vs).length = cs.length := by
  induction vs generalizing cs off with
  | nil => rfl
  | cons v vs ih => simp [putL, ih]
theorem stores_run (os : List Value) : ∀ (vs : List Value) (m : Mem) (w : World) (e : TypeId) (cs : List Value) (off i : Nat) (id b tot : Nat), MRel W0 base ρ m w → m[id]? = some ⟨.own, e, cs⟩ → ρ[id]? = some (b, 0, tot) → off + i + vs.length ≤ cs.length →
    VL ρ vs os → onesB vs = true → ∃ w', (storeCells ⟨b, off, none⟩ os i).run P w = .ok () w' ∧ MRel W0 base ρ (m.set id ⟨.own, e, putL cs (off + i) vs⟩) w' := by
  induction os with
  | nil =>
    intro vs m w e cs off i id b tot h hm hp hl hv ho
    have : vs = [] := List.eq_nil_of_length_eq_zero (by rw [hv.1]; rfl)
    subst this
    refine ⟨w, by simp [storeCells, go_sem], ?_⟩
    have : m.set id ⟨.own, e, putL cs (off + i) []⟩ = m := by
      simp only [putL]
      obtain ⟨hi, he⟩ := List.getElem?_eq_some_iff.1 hm
      rw [← he]
      simp
    rw [this]
    exact h
  | cons y os ih =>
    intro vs m w e cs off i id b tot h hm hp hl hv ho
    cases vs with
    | nil => exact absurd hv.1 (by simp)
    | cons x vs =>
      simp only [List.length_cons] at hl
      have hxy : VR ρ x y := hv.2 0 x y rfl rfl
      have ht : VL ρ vs os := ⟨by have := hv.1; simpa using this, fun i a b ha hb => hv.2 (i + 1) a b (by simpa using ha) (by simpa using hb)⟩
      simp only [onesB, List.all_cons, Bool.and_eq_true] at ho
      have hst := h.store hm hp (k := off + i) (by omega) hxy
      obtain ⟨b', tot', hp', hl2, hc⟩ := h.own id e cs hm
      rw [hp] at hp'
      cases hp'
      obtain ⟨hbb, cur, hgg, hs, hcur⟩ := hc (by omega)
      have hcell : ∃ z, w.cell? ⟨b, off + i, none⟩ = some z := by
        rw [cell_of_row w b (off + i) cur e (0, 0) hgg]
        exact ⟨_, Array.getElem?_eq_getElem (by omega)⟩
      obtain ⟨z, hz⟩ := hcell
      have hfr : w.frozen? ⟨b, off + i, none⟩ = false := by simp [World.frozen?, hgg]
      have h1 : (store ((⟨b, off, none⟩ : Addr).add i) y).run P w = .ok () (w.setCell ⟨b, off + i, none⟩ y) := by
        rw [add_at]
        have ho1 := hxy.one ho.1
        unfold store
        cases y <;> first | (simp [Value.oneCell'] at ho1; done) | simp [Sem.run, hz, hfr]
      obtain ⟨w', hr, hm'⟩ := ih vs (m.set id ⟨.own, e, cs.set (off + i) x⟩) _ e (cs.set (off + i) x) off (i + 1) id b tot hst (by
        rw [List.getElem?_set_self (List.getElem?_eq_some_iff.1 hm).1]) hp (by simp; omega) ht ho.2
      refine ⟨w', ?_, ?_⟩
      · simp only [storeCells, Sem.run_bind, h1, Result.andThen_ok, hr]
      · simp only [List.set_set] at hm'
        simpa [putL, Nat.add_assoc] using hm'
/-! Maps. -/
theorem mapB_some {m : Mem} {id : Nat} {p : TypeId × List Value} (h : mapB m id = some p) : m[id]? = some ⟨.dead, p.1, .bool true :: p.2⟩ := by
  unfold mapB at h
  split at h
  · rename_i h1; cases h; exact h1
  · cases h
theorem MRel.newMap (h : MRel W0 base ρ m w) (e : TypeId) : MRel W0 base (ρ ++ [(w.heap.size, 0, 0)]) (m ++ [⟨.dead, e, [.bool true]⟩]) (w.alloc (.map #[] 0)) := by
  have hk := h.keep (w' := w.alloc (.map #[] 0)) ((Below.refl _ _).alloc (Nat.le_refl _) _)
  have hpre := pre_snoc ρ (w.heap.size, 0, 0)
  refine ⟨by simp [h.len], hk.below, hk.le, ?_, ?_, ?_, ⟨?_, ?_⟩, hk.oth, hk.tab⟩
  · intro id e' xs' hm
    rcases at_app hm with ⟨hi, hm⟩ | ⟨_, he⟩
    · obtain ⟨b, o, tot, hp, hc⟩ := hk.ro id e' xs' hm
      exact ⟨b, o, tot, pre_at hpre hp, fun k x hx => by obtain ⟨h1, y, hy, hv⟩ := hc k x hx; exact ⟨h1, y, hy, hv.mono hpre⟩⟩
    · cases he
  · intro id e' xs' hm
    rcases at_app hm with ⟨hi, hm⟩ | ⟨hi, he⟩
    · obtain ⟨b, tot, hp, hl, hc⟩ := hk.own id e' xs' hm
      refine ⟨b, tot, pre_at hpre hp, hl, fun ht => ?_⟩
      obtain ⟨h1, cur', hg, hs, hcur⟩ := hc ht
      exact ⟨h1, cur', hg, hs, fun k x hx => by obtain ⟨y, hy, hv⟩ := hcur k x hx; exact ⟨y, hy, hv.mono hpre⟩⟩
    · cases he
  · intro i j e1 e2 xs1 xs2 b1 o1 t1 b2 o2 t2 hij h1 h2 hp1 hp2 ht1 ht2
    have old : ∀ (i : Nat) (p : Nat × Nat × Nat), i < m.length → (ρ ++ [(w.heap.size, 0, 0)])[i]? = some p → ρ[i]? = some p := by
      intro i p hi hp
      rw [List.getElem?_append_left (by rw [h.len]; exact hi)] at hp
      exact hp
    rcases at_app h1 with ⟨hi1, hm1⟩ | ⟨_, he⟩
    · rcases at_app h2 with ⟨hi2, hm2⟩ | ⟨_, he⟩
      · exact h.apart i j e1 e2 xs1 xs2 b1 o1 t1 b2 o2 t2 hij hm1 hm2 (old i _ hi1 hp1) (old j _ hi2 hp2) ht1 ht2
      · cases he
    · cases he
  · intro id e' es hm
    rcases at_app hm with ⟨hi, hm⟩ | ⟨hi, he⟩
    · obtain ⟨b, ce, cl, g1, g2, g3, g4⟩ := hk.maps.at_ id e' es hm
      exact ⟨b, ce, cl, pre_at hpre g1, g2, g3, g4.mono hpre⟩
    · cases he
      exact ⟨w.heap.size, #[], 0, by rw [hi, ← h.len]; simp, h.le, heap_alloc_new w _, rfl, fun i x y hx => by simp at hx⟩
  · intro i j e1 e2 xs ys b1 o1 t1 b2 o2 t2 hij h1 h2 hp1 hp2
    have old : ∀ (i : Nat) (e : TypeId) (xs : List Value) (b o t : Nat), m[i]? = some ⟨.dead, e, .bool true :: xs⟩ → (ρ ++ [(w.heap.size, 0, 0)])[i]? = some (b, o, t) → ρ[i]? = some (b, o, t) ∧ b < w.heap.size := by
      intro i e xs b o t hm hp
      obtain ⟨b', ce, cl, g1, _, g3, _⟩ := h.maps.at_ i e xs hm
      have := pre_at hpre g1
      rw [hp] at this
      cases this
      exact ⟨g1, (Array.getElem?_eq_some_iff.1 g3).1⟩
    have new : ∀ (i : Nat) (b o t : Nat), i = m.length → (ρ ++ [(w.heap.size, 0, 0)])[i]? = some (b, o, t) → b = w.heap.size := by
      intro i b o t hi hp
      rw [hi, ← h.len] at hp
      simp at hp
      exact hp.1.symm
    rcases at_app h1 with ⟨hi1, hm1⟩ | ⟨hi1, _⟩ <;> rcases at_app h2 with ⟨hi2, hm2⟩ | ⟨hi2, _⟩
    · exact h.maps.ap i j e1 e2 xs ys b1 o1 t1 b2 o2 t2 hij hm1 hm2 (old i e1 xs b1 o1 t1 hm1 hp1).1 (old j e2 ys b2 o2 t2 hm2 hp2).1
    · have := (old i e1 xs b1 o1 t1 hm1 hp1).2
      have := new j b2 o2 t2 hi2 hp2
      omega
    · have := (old j e2 ys b2 o2 t2 hm2 hp2).2
      have := new i b1 o1 t1 hi1 hp1
      omega
    · omega
theorem MRel.putMap (h : MRel W0 base ρ m w) {id b : Nat} {e : TypeId} {es : List Value} {ce : Array MapEntry} {cl cl' : Nat} {x : Int} {v v' : Value} {born : Nat} (hm0 : m[id]? = some ⟨.dead, e, .bool true :: es⟩)
    (hp0 : ρ[id]? = some (b, 0, 0)) (hb : base ≤ b) (hg : w.heap[b]? = some (.map ce cl)) (he : EL ρ es ce.toList) (hv : VR ρ v v') :
    MRel W0 base ρ (m.set id ⟨.dead, e, .bool true :: (es ++ [.tuple #[.int .i64 x, v]])⟩) { w with heap := w.heap.setIfInBounds b (.map (ce.push { key := .int .i64 x, val := v', born }) cl') } := by
  have hblt : b < w.heap.size := (Array.getElem?_eq_some_iff.1 hg).1
  have hset : (w.heap.setIfInBounds b (.map (ce.push { key := .int .i64 x, val := v', born }) cl'))[b]? = some (.map (ce.push { key := .int .i64 x, val := v', born }) cl') := by simp [hblt]
  have hoth : ∀ i, i ≠ b → (w.heap.setIfInBounds b (.map (ce.push { key := .int .i64 x, val := v', born }) cl'))[i]? = w.heap[i]? := fun i hi => by simp [Ne.symm hi]
  refine ⟨by simp [h.len], h.below.trans ⟨rfl, rfl, rfl, by simp, fun k hk => hoth k (by omega)⟩, by simpa using h.le, ?_, ?_, ?_, ⟨?_, ?_⟩, h.oth.trans (.of_cells hg rfl fun i hi _ => hoth i hi), h.tab⟩
  · intro i e' xs' hm
    rcases at_set hm with ⟨hi, hm⟩ | ⟨_, he, _⟩
    · obtain ⟨b2, o, t, hp, hc2⟩ := h.ro i e' xs' hm
      refine ⟨b2, o, t, hp, fun k2 x2 hx => ?_⟩
      obtain ⟨h1, y2, hy, hv2⟩ := hc2 k2 x2 hx
      refine ⟨h1, y2, ?_, hv2⟩
      rw [World.cell?_of_block (w := w) (hoth b2 (by omega))]
      exact hy
    · cases he
  · intro i e' xs' hm
    rcases at_set hm with ⟨hi, hm⟩ | ⟨_, he, _⟩
    · obtain ⟨b2, t, hp, hl2, hc2⟩ := h.own i e' xs' hm
      refine ⟨b2, t, hp, hl2, fun ht => ?_⟩
      obtain ⟨h1, cur2, hgg2, hs2, hcur2⟩ := hc2 ht
      refine ⟨h1, cur2, ?_, hs2, hcur2⟩
      rw [hoth b2 (fun e => by subst e; rw [hg] at hgg2; cases hgg2)]
      exact hgg2
    · cases he
  · intro i j e1 e2 xs1 xs2 b1 o1 t1 b2 o2 t2 hij h1 h2
    rcases at_set h1 with ⟨_, hm1⟩ | ⟨_, he, _⟩
    · rcases at_set h2 with ⟨_, hm2⟩ | ⟨_, he, _⟩
      · exact h.apart i j e1 e2 xs1 xs2 b1 o1 t1 b2 o2 t2 hij hm1 hm2
      · cases he
    · cases he
  · intro i e' es' hm
    rcases at_set hm with ⟨hi, hm⟩ | ⟨hi, hee, _⟩
    · obtain ⟨b2, ce2, cl2, g1, g2, g3, g4⟩ := h.maps.at_ i e' es' hm
      refine ⟨b2, ce2, cl2, g1, g2, ?_, g4⟩
      rw [hoth b2 (h.maps.ap i id e' e es' es b2 0 0 b 0 0 hi hm hm0 g1 hp0)]
      exact g3
    · cases hee
      subst hi
      refine ⟨b, _, _, hp0, hb, hset, by simp [he.1], fun j y z hy hz => ?_⟩
      rw [Array.toList_push] at hz
      by_cases hj : j < es.length
      · rw [List.getElem?_append_left hj] at hy
        rw [List.getElem?_append_left (by rw [← he.1]; exact hj)] at hz
        exact he.2 j y z hy hz
      · rw [List.getElem?_append_right (by omega)] at hy
        rw [List.getElem?_append_right (by rw [← he.1]; omega), ← he.1] at hz
        have h0 : j - es.length = 0 := by
          rcases Nat.eq_zero_or_pos (j - es.length) with h0 | h0
          · exact h0
          · rw [List.getElem?_eq_none (by simp; omega)] at hy; cases hy
        rw [h0] at hy hz
        simp at hy hz
        exact ⟨x, v, hy.symm, by rw [← hz], by rw [← hz]; exact hv⟩
  · intro i j e1 e2 xs ys b1 o1 t1 b2 o2 t2 hij h1 h2
    have back : ∀ (i : Nat) (e1 : TypeId) (xs : List Value), (m.set id ⟨.dead, e, .bool true :: (es ++ [.tuple #[.int .i64 x, v]])⟩)[i]? = some ⟨.dead, e1, .bool true :: xs⟩ → ∃ e1 xs, m[i]? = some ⟨.dead, e1, .bool true :: xs⟩ := by
      intro i e1 xs h1
      rcases at_set h1 with ⟨_, hm1⟩ | ⟨hi, _, _⟩
      · exact ⟨e1, xs, hm1⟩
      · subst hi; exact ⟨e, es, hm0⟩
    obtain ⟨f1, ys1, g1⟩ := back i e1 xs h1
    obtain ⟨f2, ys2, g2⟩ := back j e2 ys h2
    exact h.maps.ap i j f1 f2 ys1 ys2 b1 o1 t1 b2 o2 t2 hij g1 g2
/-- Looking up, here and there. -/
theorem find_rel (x : Int) : ∀ (es : List Value) (ce : List MapEntry) (i : Nat), EL ρ es ce →
    (∀ y ∈ ce, MapKept.IsKey (.int .i64) y.key) ∧ ((lkE es x = none ∧ Instr.findNow (.int .i64) (.int .i64 x) ce i = some none) ∨
      ∃ v j v', lkE es x = some v ∧ Instr.findNow (.int .i64) (.int .i64 x) ce i = some (some (j, v')) ∧ VR ρ v v') := by
  intro es
  induction es with
  | nil =>
    intro ce i h
    have : ce = [] := List.eq_nil_of_length_eq_zero (by rw [← h.1]; rfl)
    subst this
    exact ⟨by simp, .inl ⟨rfl, rfl⟩⟩
  | cons e es ih =>
    intro ce i h
    cases ce with
    | nil => exact absurd h.1 (by simp)
    | cons y ce =>
      obtain ⟨k, v, rfl, hk, hv⟩ := h.2 0 e y rfl rfl
      have ht : EL ρ es ce := ⟨by simpa using h.1, fun j a b ha hb => h.2 (j + 1) a b (by simpa using ha) (by simpa using hb)⟩
      obtain ⟨i1, i2⟩ := ih ce (i + 1) ht
      refine ⟨fun z hz => ?_, ?_⟩
      · rcases List.mem_cons.1 hz with rfl | hz
        · rw [hk]; rfl
        · exact i1 z hz
      · by_cases hkx : k = x
        · subst hkx
          refine .inr ⟨v, i, y.val, by simp [lkE], ?_, hv⟩
          simp [Instr.findNow, hk, Instr.sameNow]
        · have hkx' : (x == k) = false := by simpa using Ne.symm hkx
          have e1 : lkE (.tuple #[.int .i64 k, v] :: es) x = lkE es x := by simp [lkE, hkx]
          have e2 : Instr.findNow (.int .i64) (.int .i64 x) (y :: ce) i = Instr.findNow (.int .i64) (.int .i64 x) ce (i + 1) := by
            simp [Instr.findNow, hk, Instr.sameNow, hkx']
          rw [e1, e2]
          exact i2
theorem zero_rel (ρ : Places) {z : Value} (h : z.cells.all constOk = true) : VR ρ z z := by
  cases z with
  | agg cs =>
    refine .agg rfl fun i x y hx hy => ?_
    rw [hx] at hy
    cases hy
    have h2 : cs.all constOk = true := h
    exact VR.const (Array.all_eq_true_iff_forall_mem.1 h2 x (Array.mem_of_getElem? hx))
  | _ =>
    refine VR.const ?_
    simpa [Value.cells] using h

theorem ownsRow_of (h : MRel W0 base ρ m w) {id b tot e j c sz : Nat} {cs : List Value} (hm : m[id]? = some ⟨.own, e, cs⟩) (hp : ρ[id]? = some (b, 0, tot)) (hcs : cs.length = j * sz) (hsz : 0 < sz) (hjc : j ≤ c) (hcm : c ≤ maxLen) (htot : c * sz = tot) (ht : 0 < tot) :
    ∃ ys, VL ρ cs ys ∧ w.ownsRow base e sz (.slice (some ⟨b, 0, none⟩) j c) j ys := by
  obtain ⟨b', tot', hp', hl, hc⟩ := h.own id e cs hm
  rw [hp] at hp'
  cases hp'
  obtain ⟨hb, cur, hg, hs, hcur⟩ := hc ht
  have hlen : j * sz ≤ tot := by rw [← htot]; exact Nat.mul_le_mul_right _ hjc
  refine ⟨cur.toList.take (j * sz), ⟨by simp; omega, fun i x y hx hy => ?_⟩, by simp; omega, .inr ⟨b, c, cur, rfl, hb, hg, hjc, hcm, by rw [hs, htot], rfl⟩⟩
  obtain ⟨z, hz, hv⟩ := hcur i x hx
  rw [List.getElem?_take] at hy
  split at hy
  · have : cur.toList[i]? = some z := by simpa using hz
    rw [this] at hy
    cases hy
    exact hv
  · cases hy
theorem rdl_run (h : MRel W0 base ρ m w) {id b o tot off k : Nat} {xs : List Value} (hp : ρ[id]? = some (b, o, tot)) (hx : rdl m id off k = some xs) : ∃ ys, VL ρ xs ys ∧ ys.length = k ∧ ∀ (j : Nat) (y : Value), ys[j]? = some y → w.cell? ((⟨b, o + off, none⟩ : Addr).add j) = some y := by
  have key : rdn m id off k = some xs := by
    unfold rdl at hx
    cases hm : m[id]? with
    | none => rw [hm] at hx; cases hx
    | some bl =>
      rw [hm] at hx
      simp only [] at hx
      split at hx
      · cases hx
      · rename_i hd
        split at hx
        · rename_i hle
          cases hx
          have : ∀ (k off : Nat), off + k ≤ bl.cs.length → rdn m id off k = some ((bl.cs.drop off).take k) := by
            intro k
            induction k with
            | zero => intro off _; simp [rdn]
            | succ k ih =>
              intro off hle
              have h1 : rdc m id off = some bl.cs[off] := by
                simp only [rdc, hm, if_neg hd]
                exact List.getElem?_eq_getElem (by omega)
              simp only [rdn, h1, ih (off + 1) (by omega)]
              congr 1
              rw [List.drop_eq_getElem_cons (by omega : off < bl.cs.length), List.take_succ_cons]
          exact this k off hle
        · cases hx
  obtain ⟨ys, hv, hl, hc⟩ := rdn_run h hp k off xs key
  exact ⟨ys, hv, hl, fun j y hy => by rw [add_at]; exact hc j y hy⟩
theorem rdl_len {id off k : Nat} {xs : List Value} (hx : rdl m id off k = some xs) : xs.length = k := by
  unfold rdl at hx
  split at hx
  · split at hx
    · cases hx
    · split at hx
      · cases hx; simp; omega
      · cases hx
  · cases hx
theorem ones_rel {xs ys : List Value} (h : VL ρ xs ys) (ho : onesB xs = true) : ∀ u ∈ ys, u.oneCell' = true := by
  intro u hu
  obtain ⟨i, hi⟩ := List.mem_iff_getElem?.1 hu
  have hl : i < xs.length := by rw [h.1]; exact (List.getElem?_eq_some_iff.1 hi).1
  have hx := List.getElem?_eq_getElem hl
  exact (h.2 i _ u hx hi).one (List.all_eq_true.1 ho _ (List.getElem_mem hl))
/-- What stands for a slice to be appended: its cells. -/
theorem slR_run (h : MRel W0 base ρ m w) {sz : Nat} {x x' : Value} {xs : List Value} (hv : VR ρ x x') (hx : slR m sz x = some xs) :
    ∃ A k c ys, x' = .slice A k c ∧ k = lenOfA x ∧ VL ρ xs ys ∧ ys.length = k * sz ∧ (k * sz = 0 ∨ ∃ ad, A = some ad ∧ ∀ (j : Nat) (y : Value), ys[j]? = some y → w.cell? (ad.add j) = some y) := by
  unfold slR at hx
  split at hx
  · cases hx
    cases hv
    exact ⟨none, 0, 0, [], rfl, rfl, .nil _, by simp, .inl (by simp)⟩
  · rename_i id off k fl
    obtain ⟨b, o, tot, c, A, rfl, hp, hk, hc, h0, h1⟩ := hv.slice_inv
    obtain ⟨ys, hvl, hl, hcell⟩ := rdl_run h hp hx
    refine ⟨A, k, c, ys, rfl, rfl, hvl, hl, ?_⟩
    rcases Nat.eq_zero_or_pos k with hk0 | hk0
    · exact .inl (by rw [hk0]; simp)
    · exact .inr ⟨_, VR.slice_addr hk0 hk h0 h1, hcell⟩
  · cases hx
theorem app_zero {t e : TypeId} {i : TypeInfo} (ht : P.underlying t = some (.slice e)) (hi : P.info? e = some i) {ty : TypeId} {A B : Option Addr} {j c c2 : Nat} (hjc : j ≤ c) :
    (Builtin.append_ #[t, t] ty #[.slice A j c, .slice B 0 c2]).run P w = .ok (.slice A j c) w := by
  cases A <;> cases B <;> simp [Builtin.append_, run_und ht, sizeOf, typeInfo, hi, go_sem, Builtin.lenOf, hjc, Builtin.firstCells, loadCells, loadCellsFrom, storeCells]
/-- A row of one's own is taken under a new number. -/
theorem MRel.adopt {w' : World} {m2 : Mem} {e sz j cap g : Nat} {cs : List Value} {zs : List Value} (h : MRel W0 base ρ m2 w') (hsz : 0 < sz) (ho : w'.ownsRow base e sz (.slice (some ⟨g, 0, none⟩) j cap) j zs) (hv : VL ρ cs zs)
    (hap : 0 < cap * sz → ∀ (i : Nat) (e1 : TypeId) (xs1 : List Value) (b1 o1 t1 : Nat), m2[i]? = some ⟨.own, e1, xs1⟩ → ρ[i]? = some (b1, o1, t1) → 0 < t1 → b1 ≠ g) :
    MRel W0 base (ρ ++ [(g, 0, cap * sz)]) (m2 ++ [⟨.own, e, cs⟩]) w' ∧ VR (ρ ++ [(g, 0, cap * sz)]) (.slice (some ⟨m2.length, 0, none⟩) j sz) (.slice (some ⟨g, 0, none⟩) j cap) := by
  obtain ⟨hzl, hrest⟩ := ho
  rcases hrest with ⟨hn, _⟩ | ⟨g', cap', cur, hv', hbg, hg, hnc, hcm, hcs, htake⟩
  · cases hn
  · simp only [Value.slice.injEq, Option.some.injEq, Addr.mk.injEq] at hv'
    obtain ⟨⟨rfl, _, _⟩, _, rfl⟩ := hv'
    refine ⟨h.add (by rw [hv.1, hzl]; exact Nat.mul_le_mul_right _ hnc) (fun _ => ⟨hbg, cur, hg, hcs, fun k x hx => ?_⟩) hap, ?_⟩
    · obtain ⟨y, hy, hvr⟩ := hv.at_ hx
      refine ⟨y, ?_, hvr⟩
      rw [← htake, List.getElem?_take] at hy
      split at hy
      · simpa using hy
      · cases hy
    · refine .sl (b := g) (o := 0) (tot := cap * sz) (by rw [← h.len]; simp) hnc hcm (fun _ _ => by simp) (fun _ => ⟨by simp, fun _ => by simp⟩)
theorem VL.both {as bs cs ds : List Value} (h : VL ρ as bs) (h2 : VL ρ cs ds) : VL ρ (as ++ cs) (bs ++ ds) := h.append h2
/-- The two ways of append that tell all of a row. -/
def appX (m : Mem) (e sz byt : Nat) (x : Value) (xs : List Value) (k : Nat) : Option (Value × Mem) := match x with
  | .slice none 0 0 => if k ≤ 9223372036854775807 ∧ k * byt ≤ 140737488355328 then some (.slice (some ⟨m.length, 0, none⟩) k sz, m ++ [⟨.own, e, xs⟩]) else none
  | .slice (some ⟨id, 0, none⟩) j fl => match m[id]? with
    | some b => if b.kd = .own ∧ fl = sz ∧ b.el = e ∧ b.cs.length = j * sz ∧ j + k ≤ 9223372036854775807 ∧ (j + k) * byt ≤ 140737488355328 then
        some (.slice (some ⟨m.length, 0, none⟩) (j + k) sz, m.set id deadB ++ [⟨.own, e, b.cs ++ xs⟩]) else none
    | none => none
  | _ => none
/-- What a block holds behind a place is forgotten. -/
theorem MRel.forget (h : MRel W0 base ρ m w) {id : Nat} {e : TypeId} {xs : List Value} (hm0 : m[id]? = some ⟨.own, e, xs⟩) (q : Nat) : MRel W0 base ρ (m.set id ⟨.own, e, xs.take q⟩) w where
  len := by simp [h.len]
  below := h.below
  le := h.le
  ro := fun i e' xs' hm => by
    rcases at_set hm with ⟨hi, hm⟩ | ⟨_, he, _⟩
    · exact h.ro i e' xs' hm
    · cases he
  own := fun i e' xs' hm => by
    rcases at_set hm with ⟨hi, hm⟩ | ⟨hi, he, _⟩
    · exact h.own i e' xs' hm
    · cases he
      subst hi
      obtain ⟨b2, t, hp, hl, hc⟩ := h.own i e xs hm0
      refine ⟨b2, t, hp, by rw [List.length_take]; omega, fun ht => ?_⟩
      obtain ⟨h1, cur, hgg, hs, hcur⟩ := hc ht
      refine ⟨h1, cur, hgg, hs, fun k x hx => hcur k x ?_⟩
      rw [List.getElem?_take] at hx
      split at hx
      · exact hx
      · cases hx
  apart := by
    have key : ∀ (i : Nat) (e1 : TypeId) (ys : List Value), (m.set id ⟨.own, e, xs.take q⟩)[i]? = some ⟨.own, e1, ys⟩ → ∃ zs, m[i]? = some ⟨.own, e1, zs⟩ := by
      intro i e1 ys hm
      rcases at_set hm with ⟨_, hm⟩ | ⟨hi, he, _⟩
      · exact ⟨_, hm⟩
      · cases he; subst hi; exact ⟨_, hm0⟩
    intro i j e1 e2 xs1 xs2 b1 o1 t1 b2 o2 t2 hij h1 h2
    obtain ⟨_, h1⟩ := key i e1 xs1 h1
    obtain ⟨_, h2⟩ := key j e2 xs2 h2
    exact h.apart i j e1 e2 _ _ b1 o1 t1 b2 o2 t2 hij h1 h2
  maps := h.maps.step (List.prefix_refl _) (fun i e' es hm => by
    rcases at_set hm with ⟨_, hm⟩ | ⟨_, he, _⟩
    · exact hm
    · cases he) fun b ce cl _ hb => hb
  oth := h.oth
  tab := h.tab
theorem appA_cases {m : Mem} {e sz byt : Nat} {x : Value} {xs : List Value} {k : Nat} {r : Value × Mem} (h : appA m e sz byt x xs k = some r) :
    appX m e sz byt x xs k = some r ∨ ∃ id cs q, m[id]? = some ⟨.own, e, cs⟩ ∧ appX (m.set id ⟨.own, e, cs.take q⟩) e sz byt x xs k = some r := by
  unfold appA at h
  split at h
  · split at h
    · rename_i hb
      refine .inl ?_
      simp only [appX]
      rw [if_pos hb]; exact h
    · cases h
  · rename_i id j fl
    split at h
    · rename_i b hbl
      split at h
      · rename_i hc
        refine .inl ?_
        simp only [appX, hbl]
        rw [if_pos hc]; exact h
      · split at h
        · rename_i hc
          obtain ⟨kd, el, cs⟩ := b
          obtain ⟨hkd, hfl, hel, hle, hb1, hb2⟩ := hc
          simp only [] at hkd hel hle
          subst hkd
          subst hel
          refine .inr ⟨id, cs, j * sz, hbl, ?_⟩
          have hlt := (List.getElem?_eq_some_iff.1 hbl).1
          simp only [appX, List.getElem?_set_self hlt]
          rw [if_pos (by simp only [List.length_take]; exact ⟨trivial, hfl, trivial, by omega, hb1, hb2⟩), List.length_set, List.set_set]
          exact h
        · cases h
    · cases h
  · cases h
theorem app_ex {t e : TypeId} {i : TypeInfo} {z : Value} (ht : P.underlying t = some (.slice e)) (hi : P.info? e = some i) (hz : i.zero = some z) (hzs : z.cells.size = i.size) (hsz : 0 < i.size) {ty : TypeId}
    (h : MRel W0 base ρ m w) {y y' : Value} {xs ys : List Value} {A : Option Addr} {k c2 : Nat} {r : Value × Mem} (hy : VR ρ y y') (hvl : VL ρ xs ys) (hyl : ys.length = k * i.size) (hcell : k * i.size = 0 ∨ ∃ ad, A = some ad ∧ ∀ (j : Nat) (y : Value), ys[j]? = some y → w.cell? (ad.add j) = some y)
    (ho : onesB xs = true) (hr : appX m e i.size i.bytes y xs k = some r) :
    ∃ v' w' ρ', (Builtin.append_ #[t, t] ty #[y', .slice A k c2]).run P w = .ok v' w' ∧ ρ <+: ρ' ∧ MRel W0 base ρ' r.2 w' ∧ VR ρ' r.1 v' := by
  have hxl : xs.length = k * i.size := by rw [hvl.1]; exact hyl
  have hone := ones_rel hvl ho
  unfold appX at hr
  split at hr
  · -- nil
    split at hr
    · rename_i hb
      cases hr
      cases hy
      rcases Nat.eq_zero_or_pos k with hk0 | hk0
      · rw [hk0] at hxl ⊢
        have hxn : xs = [] := List.eq_nil_of_length_eq_zero (by rw [hxl]; simp)
        subst hxn
        refine ⟨.slice none 0 0, w, ρ ++ [(0, 0, 0)], app_zero ht hi (Nat.le_refl _), pre_snoc _ _, h.add (by simp) (fun h => absurd h (by omega)) (fun h => absurd h (by omega)), ?_⟩
        refine .sl (b := 0) (o := 0) (tot := 0) (by rw [← h.len]; simp) (Nat.le_refl _) (Nat.zero_le _) (fun _ h => absurd h (by omega)) (fun _ => ⟨by simp, fun h => absurd h (by omega)⟩)
      · rcases hcell with h0 | ⟨ad, rfl, hc⟩
        · exact absurd h0 (by have := Nat.mul_pos hk0 hsz; omega)
        · obtain ⟨v', w', hrun, hown, hgr, hnil, hat⟩ := run_append_own_at (P := P) w base t ty e i z i.size i.bytes ht hi hz rfl rfl hzs hsz (.slice none 0 0) 0 [] (World.ownsRow_nil w base e i.size) ad k c2 ys hyl hc hone
            (by unfold maxLen; omega) (by simpa using hb.2) h.le
          have hne : v' ≠ .slice none 0 0 := fun e => by have := (hnil.1 e).2; omega
          have hv' := hown.2
          rcases hv' with ⟨e1, _⟩ | ⟨g, cap, cur, rfl, hrest⟩
          · exact absurd e1 hne
          · have hgw : g = w.heap.size := by
              rcases hat with hat | hat
              · simp [Value.ownBlock] at hat
              · simpa [Value.ownBlock] using hat
            have hm2 := h.grown (w' := w') hgr
            simp only [Nat.zero_add, List.nil_append] at hown
            obtain ⟨q1, q2⟩ := hm2.adopt hsz hown hvl (fun _ i' e1 xs1 b1 o1 t1 hm1 hp1 ht1 => by
              obtain ⟨b', tot', hp', _, hc'⟩ := h.own i' e1 xs1 hm1
              rw [hp1] at hp'
              cases hp'
              obtain ⟨_, cur', hg', _⟩ := hc' ht1
              have := (Array.getElem?_eq_some_iff.1 hg').1
              omega)
            simp only [Nat.zero_add] at hrun
            exact ⟨_, w', _, hrun, pre_snoc _ _, q1, q2⟩
    · cases hr
  · rename_i id j fl
    split at hr
    · rename_i bl hbl
      split at hr
      · rename_i hc
        obtain ⟨hkd, hfl, hel, hlen, hb1, hb2⟩ := hc
        cases hr
        subst hfl
        obtain ⟨kd, el, cs⟩ := bl
        simp only [] at hkd hel hlen
        subst hkd
        subst hel
        obtain ⟨b, o, tot, c, Ay, rfl, hp, hjc, hcm, _, hst⟩ := hy.slice_inv
        obtain ⟨b', tot', hp', hl, hcur⟩ := h.own id el cs hbl
        rw [hp] at hp'
        cases hp'
        obtain ⟨htot, hA⟩ := hst hsz
        simp only [Nat.zero_add] at htot
        have hlive : id < m.length := (List.getElem?_eq_some_iff.1 hbl).1
        have hother : ∀ (m' : Mem), m' = m.set id deadB → ∀ (i' : Nat) (e1 : TypeId) (xs1 : List Value) (b1 o1 t1 : Nat), m'[i']? = some ⟨.own, e1, xs1⟩ → ρ[i']? = some (b1, o1, t1) → 0 < t1 → 0 < tot → b1 ≠ b := by
          intro m' hm' i' e1 xs1 b1 o1 t1 hm1 hp1 ht1 ht
          subst hm'
          rcases at_set hm1 with ⟨hne, hm1⟩ | ⟨_, he, _⟩
          · exact h.apart i' id e1 el xs1 cs b1 o1 t1 b 0 tot hne hm1 hbl hp1 hp ht1 ht
          · cases he
        have hold : ∀ (i' : Nat) (e1 : TypeId) (xs1 : List Value) (b1 o1 t1 : Nat), (m.set id deadB)[i']? = some ⟨.own, e1, xs1⟩ → ρ[i']? = some (b1, o1, t1) → 0 < t1 → b1 < w.heap.size := by
          intro i' e1 xs1 b1 o1 t1 hm1 hp1 ht1
          rcases at_set hm1 with ⟨hne, hm1⟩ | ⟨_, he, _⟩
          · obtain ⟨b', tot', hp', _, hc'⟩ := h.own i' e1 xs1 hm1
            rw [hp1] at hp'
            cases hp'
            obtain ⟨_, cur', hg', _⟩ := hc' ht1
            exact (Array.getElem?_eq_some_iff.1 hg').1
          · cases he
        have hmlen : (m.set id deadB).length = m.length := by simp
        rcases Nat.eq_zero_or_pos k with hk0 | hk0
        · -- nothing is appended
          rw [hk0] at hxl ⊢
          have hxn : xs = [] := List.eq_nil_of_length_eq_zero (by rw [hxl]; simp)
          subst hxn
          have hkill := h.kill hbl hp none (fun k hk => by cases hk) (w' := w) ⟨rfl, rfl, rfl, Nat.le_refl _, fun _ _ _ => rfl⟩
          refine ⟨.slice Ay j c, w, ρ ++ [(b, 0, tot)], app_zero ht hi hjc, pre_snoc _ _, hkill.add (by simpa using hl) (fun ht => ?_) (fun ht i' e1 xs1 b1 o1 t1 hm1 hp1 ht1 => hother _ rfl i' e1 xs1 b1 o1 t1 hm1 hp1 ht1 ht), ?_⟩
          · obtain ⟨h1, cur, hg, hs, hcc⟩ := hcur ht
            exact ⟨h1, cur, hg, hs, by simpa using hcc⟩
          · refine .sl (b := b) (o := 0) (tot := tot) (by rw [← h.len]; simp) hjc hcm (fun hf => absurd hf (by omega)) (fun _ => ⟨by simpa using htot, fun ht => by simpa using hA ht⟩)
        · rcases hcell with h0 | ⟨ad, rfl, hcl⟩
          · exact absurd h0 (by have := Nat.mul_pos hk0 hsz; omega)
          · rcases Nat.eq_zero_or_pos tot with ht0 | ht0
            · -- no room, no block
              have hc0 : c = 0 := by
                rcases Nat.eq_zero_or_pos c with h0 | h0
                · exact h0
                · have := Nat.mul_pos h0 hsz; omega
              subst hc0
              have hj0 : j = 0 := by omega
              subst hj0
              have hcs0 : cs = [] := List.eq_nil_of_length_eq_zero (by rw [hlen]; simp)
              subst hcs0
              have hgrow : ∃ w', (Builtin.append_ #[t, t] ty #[.slice Ay 0 0, .slice (some ad) k c2]).run P w = .ok (.slice (some ⟨w.heap.size, 0, none⟩) k (grownCap w k 0 el)) w' ∧
                  w' = w.drew.alloc (.cells (ys.toArray ++ Builtin.zeroCells z.cells (grownCap w k 0 el - k)) el) := by
                refine ⟨_, ?_, rfl⟩
                cases Ay with
                | none => exact run_append_nil (P := P) w t ty el i z ht hi hz ad k c2 ys hyl hcl hk0 (by omega) (by have := hb2; simp only [Nat.zero_add] at this; omega)
                | some bb =>
                  have := run_append_grow (P := P) w t ty el i z ht hi hz bb 0 0 [] (by simp) (fun j v hv => by cases hv) ad k c2 ys hyl hcl (by omega) (by omega) (growslice_fits (by omega) hb2)
                  simpa using this
              obtain ⟨w', hrun, hw'⟩ := hgrow
              have hgb : w.grownBy w' none := by rw [hw']; exact ⟨rfl, rfl, rfl, by simp, fun k hk _ => heap_alloc_old w.drew _ k hk⟩
              have hkill := h.kill hbl hp none (fun k hk => by cases hk) hgb
              have hown : w'.ownsRow base el i.size (.slice (some ⟨w.heap.size, 0, none⟩) k (grownCap w k 0 el)) k ys := by
                rw [hw']
                have hge := grownCap_ge w k 0 el
                refine ⟨hyl, .inr ⟨w.heap.size, _, _, rfl, h.le, heap_alloc_new w.drew _, hge, grownCap_le_maxLen w k 0 el (by unfold maxLen; omega), ?_, ?_⟩⟩
                · simp only [Array.size_append, List.size_toArray, size_zeroCells, hzs, hyl, ← Nat.add_mul]
                  congr 1
                  omega
                · simp only [Array.toList_append]
                  rw [← hyl]
                  exact List.take_left
              obtain ⟨q1, q2⟩ := hkill.adopt hsz hown hvl (fun _ i' e1 xs1 b1 o1 t1 hm1 hp1 ht1 => by have := hold i' e1 xs1 b1 o1 t1 hm1 hp1 ht1; omega)
              refine ⟨_, w', _, hrun, pre_snoc _ _, by simpa using q1, ?_⟩
              rw [hmlen] at q2
              simpa using q2
            · have hAy := hA ht0
              simp only [Nat.add_zero] at hAy
              subst hAy
              obtain ⟨zs, hzv, hown0⟩ := ownsRow_of h hbl hp hlen hsz hjc hcm htot ht0
              obtain ⟨v', w', hrun, hown, hgr, hnil, hat⟩ := run_append_own_at (P := P) w base t ty el i z i.size i.bytes ht hi hz rfl rfl hzs hsz _ j zs hown0 ad k c2 ys hyl hcl hone
                (by unfold maxLen; omega) hb2 h.le
              rcases hown.2 with ⟨e1, e2⟩ | ⟨g, cap, cur, rfl, hrest⟩
              · exact absurd e2 (by omega)
              · have hkill := h.kill hbl hp (some b) (fun k hk => by cases hk; exact ⟨rfl, ht0⟩) hgr
                obtain ⟨q1, q2⟩ := hkill.adopt hsz hown (hzv.both hvl) (fun _ i' e1 xs1 b1 o1 t1 hm1 hp1 ht1 => by
                  rcases hat with hat | hat
                  · simp only [Value.ownBlock, Option.some.injEq] at hat
                    rw [hat]
                    exact hother _ rfl i' e1 xs1 b1 o1 t1 hm1 hp1 ht1 ht0
                  · simp only [Value.ownBlock, Option.some.injEq] at hat
                    have := hold i' e1 xs1 b1 o1 t1 hm1 hp1 ht1
                    omega)
                rw [hmlen] at q2
                exact ⟨_, w', _, hrun, pre_snoc _ _, q1, q2⟩
      · cases hr
    · cases hr
  · cases hr
theorem app_run {t e : TypeId} {i : TypeInfo} {z : Value} (ht : P.underlying t = some (.slice e)) (hi : P.info? e = some i) (hz : i.zero = some z) (hzs : z.cells.size = i.size) (hsz : 0 < i.size) {ty : TypeId}
    (h : MRel W0 base ρ m w) {y y' x x' : Value} {xs : List Value} {r : Value × Mem} (hy : VR ρ y y') (hx : VR ρ x x') (hxs : slR m i.size x = some xs) (ho : onesB xs = true) (hr : appA m e i.size i.bytes y xs (lenOfA x) = some r) :
    ∃ v' w' ρ', (Builtin.append_ #[t, t] ty #[y', x']).run P w = .ok v' w' ∧ ρ <+: ρ' ∧ MRel W0 base ρ' r.2 w' ∧ VR ρ' r.1 v' := by
  obtain ⟨A, k, c2, ys, rfl, hk, hvl, hyl, hcell⟩ := slR_run h hx hxs
  rw [← hk] at hr
  rcases appA_cases hr with hr | ⟨id, cs, q, hm0, hr⟩
  · exact app_ex ht hi hz hzs hsz h hy hvl hyl hcell ho hr
  · exact app_ex ht hi hz hzs hsz (h.forget hm0 q) hy hvl hyl hcell ho hr
theorem run_loadCells_ad {ad : Addr} : ∀ (ys : List Value) (i : Nat) (acc : Array Value), (∀ (j : Nat) (y : Value), ys[j]? = some y → w.cell? (ad.add (i + j)) = some y) →
    (loadCellsFrom ad i ys.length acc).run P w = .ok (acc ++ ys.toArray) w := by
  intro ys
  induction ys with
  | nil => intro i acc _; simp [loadCellsFrom, go_sem]
  | cons y ys ih =>
    intro i acc h
    have h0 := h 0 y rfl
    have hl : (load (Addr.add ad i)).run P w = .ok y w := by
      simp only [load, Sem.run]
      rw [show w.cell? (Addr.add ad i) = some y from h0]
    have := ih (i + 1) (acc.push y) (fun j z hz => by have := h (j + 1) z (by simpa using hz); rw [show i + 1 + j = i + (j + 1) by omega]; exact this)
    simp only [List.length_cons, loadCellsFrom, Sem.run_bind, hl, Result.andThen_ok, this]
    congr 1
    simp
theorem VL.take {ρ : Places} {xs ys : List Value} (h : VL ρ xs ys) (k : Nat) : VL ρ (xs.take k) (ys.take k) := by
  refine ⟨by rw [List.length_take, List.length_take, h.1], fun i x y hx hy => ?_⟩
  rw [List.getElem?_take] at hx hy
  split at hx
  · rename_i hi
    rw [if_pos hi] at hy
    exact h.2 i x y hx hy
  · cases hx
theorem cpy_run {t e : TypeId} {sz : Nat} {ty : TypeId} {x x' y y' : Value} {r : Value × Mem} (hu : P.underlying t = some (.slice e)) (hs : sizeP P e = some sz) (h0 : 0 < sz) (h : MRel W0 base ρ m w) (hy : VR ρ y y') (hx : VR ρ x x')
    (hr : cpyA m sz y x = some r) : ∃ v' w', (Builtin.copy_ #[t, t] ty #[y', x']).run P w = .ok v' w' ∧ MRel W0 base ρ r.2 w' ∧ VR ρ r.1 v' := by
  unfold cpyA at hr
  split at hr
  · rename_i id off j fl xs hsl
    split at hr
    · rename_i hones
      split at hr
      · rename_i m' hst
        cases hr
        obtain ⟨A, k, c, ys0, rfl, hk, hvl0, hyl0, hcell0⟩ := slR_run h hx hsl
        obtain ⟨b, o, tot, c2, A2, rfl, hp, hjc, hcm, ha0, ha1⟩ := hy.slice_inv
        obtain ⟨q, hq⟩ : ∃ q, q = min k j := ⟨_, rfl⟩
        have hqk : q ≤ k := by omega
        rw [← hk] at hst ⊢
        rw [← hq] at hst ⊢
        have hmin : Nat.min k j = q := hq.symm
        obtain ⟨ys, hys⟩ : ∃ ys, ys = ys0.take (q * sz) := ⟨_, rfl⟩
        have hvl : VL ρ (xs.take (q * sz)) ys := by rw [hys]; exact hvl0.take _
        have hqs : q * sz ≤ k * sz := Nat.mul_le_mul_right _ hqk
        have hyl : ys.length = q * sz := by rw [hys, List.length_take, hyl0]; omega
        have hones' : onesB (xs.take (q * sz)) = true := by
          unfold onesB at hones ⊢
          rw [List.all_eq_true] at hones ⊢
          exact fun x hx => hones x (List.mem_of_mem_take hx)
        obtain ⟨zs, hzs⟩ : ∃ zs, zs = xs.take (q * sz) := ⟨_, rfl⟩
        rw [← hzs] at hvl hones' hst
        have hld : (Builtin.firstCells sz q (.slice A k c)).run P w = .ok ys.toArray w := by
          rcases hcell0 with hz | ⟨ad, rfl, hcell⟩
          · have hq0 : q * sz = 0 := by omega
            have hy0 : ys = [] := List.eq_nil_of_length_eq_zero (by omega)
            subst hy0
            cases A with
            | none => simp [Builtin.firstCells, go_sem]
            | some ad => simp [Builtin.firstCells, loadCells, hq0, loadCellsFrom, go_sem]
          · have := run_loadCells_ad (P := P) (w := w) (ad := ad) ys 0 #[] (fun j y hy => by
              rw [hys, List.getElem?_take] at hy
              split at hy
              · simpa using hcell j y hy
              · cases hy)
            rw [hyl] at this
            simpa [Builtin.firstCells, loadCells] using this
        obtain ⟨fc, hfc⟩ : ∃ f, f = Builtin.firstCells := ⟨_, rfl⟩
        rw [← hfc] at hld
        clear hzs hsl hvl0 hys hcell0 hones
        unfold stA at hst
        split at hst
        · rename_i bl hbl
          split at hst
          · rename_i hcond
            obtain ⟨hkd, hlen, hones2⟩ := hcond
            cases hst
            obtain ⟨kd, el, cs⟩ := bl
            simp only [] at hkd hlen
            subst hkd
            obtain ⟨b', tot', hp', hl2, hown⟩ := h.own id el cs hbl
            rw [hp] at hp'
            cases hp'
            by_cases hxe : zs = []
            · subst hxe
              have hy0 : ys = [] := List.eq_nil_of_length_eq_zero (by rw [← hvl.1]; rfl)
              subst hy0
              refine ⟨.int .i64 q, w, ?_, ?_, .int _ _⟩
              · cases A2 with
                | none => (simp only [Builtin.copy_, ← hfc]; simp [run_und hu, Builtin.lenOf, go_sem, hmin, run_siz hs, hld, goInt])
                | some ad => (simp only [Builtin.copy_, ← hfc]; simp [run_und hu, Builtin.lenOf, go_sem, hmin, run_siz hs, hld, goInt, storeCells])
              · simp only [putL]
                obtain ⟨hi, he⟩ := List.getElem?_eq_some_iff.1 hbl
                rw [← he]
                simpa using h
            · have hpos : 0 < q := by
                rcases Nat.eq_zero_or_pos q with hz | hz
                · exact absurd (List.eq_nil_of_length_eq_zero (by rw [hvl.1, hyl, hz, Nat.zero_mul])) hxe
                · exact hz
              have hA2 : A2 = _ := VR.slice_addr (by omega) hjc ha0 ha1
              subst hA2
              obtain ⟨w', hr', hm'⟩ := stores_run (P := P) ys zs m w el cs off 0 id b tot h hbl hp (by simpa using hlen) hvl hones'
              refine ⟨.int .i64 q, w', ?_, by simpa using hm', .int _ _⟩
              rw [Nat.zero_add] at *
              (simp only [Builtin.copy_, ← hfc]; simp [run_und hu, Builtin.lenOf, go_sem, hmin, run_siz hs, hld, goInt, hr'])
          · cases hst
        · cases hst
      · cases hr
    · cases hr
  · cases hr
theorem VL.getElem {xs : List Value} {ds : Array Value} (h : VL ρ xs ds.toList) : xs.length = ds.size := by have := h.1; simpa using this
theorem alloc_sound {o : Oper} {K : Value → Mem → Prop} {next : Act → World → Prop} {Q : Exit → Act → World → Prop} {e : TypeId} {xs : List Value} {cur : Array Value} {v v' : Value}
    (h : MRel W0 base ρ m w) (g : Goes W0 base ρ o a K next) (hv : VL ρ xs cur.toList) (hr : (execOp a.eval o).run P w = .ok (.value v') (w.alloc (.cells cur e)))
    (hk : K v (m ++ [⟨.own, e, xs⟩])) (hvr : VR (ρ ++ [(w.heap.size, 0, cur.size)]) v v') : o.wp P a w next Q :=
  g.value hr hk (pre_snoc _ _) (h.alloc (by rw [hv.getElem]; exact Nat.le_refl _) (fun k x hx => hv.at2 k x hx)) hvr
theorem new_ptr (h : MRel W0 base ρ m w) (tot : Nat) : VR (ρ ++ [(w.heap.size, 0, tot)]) (.pointer (some ⟨m.length, 0, none⟩)) (.pointer (some ⟨w.heap.size, 0, none⟩)) := by
  have : (ρ ++ [(w.heap.size, 0, tot)])[m.length]? = some (w.heap.size, 0, tot) := by rw [← h.len]; simp
  exact .ptr this
theorem new_sl (h : MRel W0 base ρ m w) {k c sz : Nat} (hk : k ≤ c) (hc : c ≤ maxLen) : VR (ρ ++ [(w.heap.size, 0, c * sz)]) (.slice (some ⟨m.length, 0, none⟩) k sz) (.slice (some ⟨w.heap.size, 0, none⟩) k c) :=
  .sl (b := w.heap.size) (o := 0) (tot := c * sz) (by rw [← h.len]; simp) hk hc (fun _ _ => by simp) (fun _ => ⟨by simp, fun _ => by simp⟩)
theorem run_newRow (e : TypeId) (c : Array Value) : (newRow e c).run P w = .ok ⟨w.heap.size, 0, none⟩ (w.alloc (.cells c e)) := rfl
theorem call_args {xs : List Value} {n : Nat} {s : St} (h : SRel lw W0 base ρ n s a w) {f : Operand} {args : List Operand} {g : FuncId} {first cap : Array Value} (hf : opdOk n f = true) (ha : args.all (opdOk n) = true)
    (he : s.ev f = .func (.func g) first cap) : ∃ first' cap', a.eval f = .func (.func g) first' cap' ∧ VL ρ (first.toList ++ args.map s.ev ++ cap.toList) (first'.toList ++ args.map a.eval ++ cap'.toList) := by
  have hv := h.ev hf
  rw [he] at hv
  generalize a.eval f = fv at *
  cases hv with
  | fn h1 h2 h3 h4 => exact ⟨_, _, rfl, ((VL.of_arr h1 h3).append (evs_rel h ha)).append (VL.of_arr h2 h4)⟩
theorem intKey_spec {t : TypeId} (h : intKey P t = true) : P.underlying t = some (.int .i64) := by
  unfold intKey at h
  split at h
  · assumption
  · cases h
theorem lk_run {t kt e : TypeId} {ok : Bool} {z mv kv mv' kv' v : Value} (hu : P.underlying t = some (.map kt e)) (hk : P.underlying kt = some (.int .i64)) (hz : ∀ w, (zeroValue e).run P w = .ok z w) (hzr : VR ρ z z)
    (h : MRel W0 base ρ m w) (hm : VR ρ mv mv') (hkv : VR ρ kv kv') (hl : lkA m ok z mv kv = some v) : ∃ v', (Instr.lookup t mv' kv' ok).run P w = .ok v' w ∧ VR ρ v v' := by
  unfold lkA at hl
  split at hl
  · rename_i p x hp
    cases hkv
    unfold mapOf at hp
    split at hp
    · rename_i id
      cases hm with
      | @map _ b hpl =>
        obtain ⟨b', ce, cl, g1, _, g3, g4⟩ := h.maps.at_ id p.1 p.2 (mapB_some hp)
        rw [hpl] at g1
        cases g1
        obtain ⟨_, hf⟩ := find_rel x p.2 ce.toList 0 g4
        have hkey : MapKept.IsKey (.int .i64) (.int .i64 x) := rfl
        rcases hf with ⟨h1, h2⟩ | ⟨u, j, u', h1, h2, h3⟩
        · rw [h1] at hl
          have hrun : (Instr.lookup t (.map (some b)) (.int .i64 x) ok).run P w = .ok (if ok then .tuple #[z, .bool false] else z) w := by
            unfold Instr.lookup
            simp only [Sem.run_bind, run_und hu, Result.andThen_ok, MapKept.run_getObj_map g3, Sem.run_pure, MapKept.run_checkKey hk hkey, MapKept.run_findKey hk h2, hz]
          refine ⟨_, hrun, ?_⟩
          cases hl
          cases ok with
          | true =>
            refine .tup rfl fun i a b ha hb => ?_
            simp only [Option.getD_none, Option.isSome_none] at ha
            rw [ha] at hb
            cases hb
            match i with
            | 0 => simp at ha; subst ha; exact hzr
            | 1 => simp at ha; subst ha; exact .bool _
            | i + 2 => simp at ha
          | false => exact hzr
        · rw [h1] at hl
          have hrun : (Instr.lookup t (.map (some b)) (.int .i64 x) ok).run P w = .ok (if ok then .tuple #[u', .bool true] else u') w := by
            unfold Instr.lookup
            simp only [Sem.run_bind, run_und hu, Result.andThen_ok, MapKept.run_getObj_map g3, Sem.run_pure, MapKept.run_checkKey hk hkey, MapKept.run_findKey hk h2]
          refine ⟨_, hrun, ?_⟩
          cases hl
          cases ok with
          | true =>
            refine .tup rfl fun i a b ha hb => ?_
            simp only [Option.getD_some, Option.isSome_some] at ha
            match i with
            | 0 => simp at ha hb; subst ha; subst hb; exact h3
            | 1 => simp at ha hb; subst ha; subst hb; exact .bool _
            | i + 2 => simp at ha
          | false => exact h3
    · cases hp
  · cases hl
theorem mup_run {t kt e : TypeId} {mv kv v mv' kv' v' : Value} {m' : Mem} (hu : P.underlying t = some (.map kt e)) (hk : P.underlying kt = some (.int .i64))
    (h : MRel W0 base ρ m w) (hm : VR ρ mv mv') (hkv : VR ρ kv kv') (hv : VR ρ v v') (hl : mupA m mv kv v = some m') : ∃ w', (Instr.mapUpdate t mv' kv' v').run P w = .ok () w' ∧ MRel W0 base ρ m' w' := by
  unfold mupA at hl
  split at hl
  · rename_i id p x hp
    split at hl
    · rename_i hno
      cases hl
      cases hkv
      have hp : mapB m id = some p := hp
      cases hm with
      | @map _ b hpl =>
        obtain ⟨b', ce, cl, g1, g2, g3, g4⟩ := h.maps.at_ id p.1 p.2 (mapB_some hp)
        rw [hpl] at g1
        cases g1
        obtain ⟨_, hf⟩ := find_rel x p.2 ce.toList 0 g4
        have hkey : MapKept.IsKey (.int .i64) (.int .i64 x) := rfl
        rcases hf with ⟨h1, h2⟩ | ⟨u, j, u', h1, h2, h3⟩
        · refine ⟨_, ?_, h.putMap (cl' := cl + 1) (born := cl) (mapB_some hp) hpl g2 g3 g4 hv⟩
          unfold Instr.mapUpdate
          simp only [Sem.run_bind, run_und hu, Result.andThen_ok, MapKept.run_getObj_map g3, MapKept.run_checkKey hk hkey, MapKept.run_findKey hk h2, MapKept.run_setObj_map _ g3]
        · rw [h1] at hno
          cases hno
    · cases hl
  · cases hl
theorem mup_sound {o : Oper} {t : TypeId} {mo k y : Operand} {x : AOp} {K : Value → Mem → Prop} {next : Act → World → Prop} {Q : Exit → Act → World → Prop} (h : SRel lw W0 base ρ n s a w) (ho : o.op = .insert t mo k y ∨ o.op = .mapUpdate t mo k y)
    (hc : copE P n o = some x) (hs : step P s x K) (g : Goes W0 base ρ o a K next) : o.wp P a w next Q := by
  obtain ⟨dst, op, ty, pos, after, guard⟩ := o
  have hc2 : (if opdOk n mo && opdOk n k && opdOk n y then (match P.underlying t with
    | some (.map kt _) => if intKey P kt then some (AOp.mup mo k y) else none
    | _ => none) else none) = some x := by
    rcases ho with rfl | rfl <;> exact hc
  clear hc
  split at hc2
  · rename_i hok
    simp only [Bool.and_eq_true] at hok
    split at hc2
    · rename_i kt e hu
      split at hc2
      · rename_i hik
        cases hc2
        simp only [step] at hs
        split at hs
        · rename_i m' hm'
          obtain ⟨w', hrun, hmr⟩ := mup_run hu (intKey_spec hik) h.mem (h.ev hok.1.1) (h.ev hok.1.2) (h.ev hok.2) hm'
          unfold Oper.wp
          have : (execOp a.eval ⟨dst, op, ty, pos, after, guard⟩).run P w = .ok .skip w' := by
            rcases ho with rfl | rfl <;> simp only [execOp, Sem.run_bind, hrun, Result.andThen_ok, Sem.run_pure]
          rw [this]
          exact g undef undef _ ρ w' hs (List.prefix_refl _) hmr (undef_rel _)
        · exact hs.elim
      · cases hc2
    · cases hc2
  · cases hc2
theorem zero_cells {z : Array Value} (hz : z.all constOk = true) (h0 : 0 < z.size) (k : Nat) : VL ρ (repL k z.toList) (Builtin.zeroCells z k).toList := by
  have hl : (Builtin.zeroCells z k).size = k * z.size := by simp [Builtin.zeroCells]
  refine ⟨by rw [repL_len]; simp [hl], fun i x y hx hy => ?_⟩
  have hi : i < k * z.size := by
    have := (List.getElem?_eq_some_iff.1 hx).1
    rw [repL_len] at this
    simpa using this
  rw [repL_at _ _ _ (by simpa using hi)] at hx
  have hm : i % z.size < z.size := Nat.mod_lt _ h0
  have e1 : z.toList[i % z.toList.length]? = some z[i % z.size] := by
    rw [Array.getElem?_toList]
    simp [hm]
  rw [e1] at hx
  cases hx
  have e2 : (Builtin.zeroCells z k).toList[i]? = some (z[i % z.size]!) := by
    rw [Array.getElem?_toList]
    unfold Builtin.zeroCells
    rw [Array.getElem?_map, Array.getElem?_range, if_pos hi]
    rfl
  rw [e2, getElem!_pos z (i % z.size) hm] at hy
  cases hy
  exact VR.const (Array.all_eq_true.1 hz _ hm)
theorem clr_run {t e : TypeId} {ty : TypeId} {inf : TypeInfo} {z x x' : Value} {m' : Mem} (hu : P.underlying t = some (.slice e)) (hinf : P.info? e = some inf) (hzero : inf.zero = some z) (h0 : 0 < z.cells.size) (hz : z.cells.all constOk = true) (h : MRel W0 base ρ m w) (hx : VR ρ x x')
    (hr : clrA m z.cells.toList x = some m') : ∃ w', (Builtin.clear_ #[t] ty #[x']).run P w = .ok undef w' ∧ MRel W0 base ρ m' w' := by
  unfold clrA at hr
  have hzv : ∀ w, (zeroValue e).run P w = .ok z w := fun w => by simp only [zeroValue, run_inf hinf, hzero, Sem.run_bind, Result.andThen_ok, Sem.run_pure]
  split at hr
  · cases hr
    cases hx
    exact ⟨w, by simp [Builtin.clear_, run_und hu, go_sem, undef], h⟩
  · rename_i id off k fl
    obtain ⟨b, o, tot, c, A, rfl, hp, hkc, hcm, ha0, ha1⟩ := hx.slice_inv
    split at hr
    · rename_i hk
      cases hr
      subst hk
      refine ⟨w, ?_, h⟩
      cases A <;> simp [Builtin.clear_, run_und hu, go_sem, undef]
    · rename_i hk
      obtain ⟨j, rfl⟩ : ∃ j, k = j + 1 := ⟨k - 1, by omega⟩
      have hA : A = _ := VR.slice_addr (by omega) hkc ha0 ha1
      subst hA
      unfold stA at hr
      split at hr
      · rename_i bl hbl
        split at hr
        · rename_i hcond
          obtain ⟨hkd, hlen, hones⟩ := hcond
          cases hr
          obtain ⟨kd, el, cs⟩ := bl
          simp only [] at hkd hlen
          subst hkd
          obtain ⟨b', tot', hp', hl2, hown⟩ := h.own id el cs hbl
          rw [hp] at hp'
          cases hp'
          obtain ⟨w', hr', hm'⟩ := stores_run (P := P) (Builtin.zeroCells z.cells (j + 1)).toList (repL (j + 1) z.cells.toList) m w el cs off 0 id b tot h hbl hp (by simpa using hlen) (zero_cells hz h0 _) hones
          refine ⟨w', ?_, by simpa using hm'⟩
          rw [Nat.zero_add] at *
          simp only [Builtin.clear_, List.getElem?_toArray, List.getElem?_cons_zero, Sem.run_bind, run_und hu, Result.andThen_ok, hzv, hr', Sem.run_pure, undef]
        · cases hr
      · cases hr
  · cases hr
theorem apz_run {t u e : TypeId} {i : TypeInfo} {z : Value} (ht : P.underlying t = some (.slice e)) (hu : P.underlying u = some (.int .i64)) (hi : P.info? e = some i) (hz : i.zero = some z) (h0 : 0 < i.size) (h2 : z.cells.size = i.size) (h3 : z.cells.all constOk = true) {ty : TypeId}
    (h : MRel W0 base ρ m w) {y y' x x' : Value} {r : Value × Mem} (hy : VR ρ y y') (hx : VR ρ x x') (hr : apzA m e i.bytes z.cells.toList y x = some r) :
    ∃ v' w' ρ', (Builtin.append_ #[t, u] ty #[y', x']).run P w = .ok v' w' ∧ ρ <+: ρ' ∧ MRel W0 base ρ' r.2 w' ∧ VR ρ' r.1 v' := by
  unfold apzA at hr
  split at hr
  · rename_i j
    split at hr
    · rename_i hc
      cases hr
      cases hy
      cases hx
      obtain ⟨q, rfl⟩ : ∃ q : Nat, j = q := ⟨j.toNat, by omega⟩
      simp only [Int.toNat_natCast]
      have hrun := Lib.run_append_nil_zeros (P := P) w t u ty e i z .i64 .i64 ht hu hi hz q (by omega) h0 (by omega) (by have := hc.2.2; omega)
      have hge := grownCap_ge w q 0 e
      have hcm := grownCap_le_maxLen w q 0 e (by unfold maxLen; omega)
      obtain ⟨G, hG⟩ : ∃ G, G = grownCap w q 0 e := ⟨_, rfl⟩
      rw [← hG] at hrun hge hcm
      have hzl : z.cells.toList.length = i.size := by simpa using h2
      have hsz : (Builtin.zeroCells z.cells q ++ Builtin.zeroCells z.cells (G - q)).size = G * i.size := by
        simp only [Array.size_append, size_zeroCells, h2, ← Nat.add_mul]; congr 1; omega
      have hd := h.drew
      have hnew := new_sl hd (k := q) (c := G) (sz := i.size) hge hcm
      have hqg : q * i.size ≤ G * i.size := Nat.mul_le_mul_right _ hge
      have hal := hd.alloc (e := e) (xs := repL q z.cells.toList) (cur := Builtin.zeroCells z.cells q ++ Builtin.zeroCells z.cells (G - q)) (by rw [repL_len, hzl, hsz]; exact hqg) (fun k x hx => by
        have hv := zero_cells (ρ := ρ) h3 (by omega : 0 < z.cells.size) q
        obtain ⟨y, hy, hvr⟩ := hv.at_ hx
        refine ⟨y, ?_, hvr⟩
        have hk := (List.getElem?_eq_some_iff.1 hy).1
        rw [Array.getElem?_toList] at hy
        rw [Array.getElem?_append_left (by simpa using hk)]
        exact hy)
      rw [hsz] at hal
      rw [hzl]
      exact ⟨_, _, _, hrun, pre_snoc _ _, hal, hnew⟩
    · cases hr
  · cases hr
theorem follow_run : ∀ (path : List FieldStep) (t xt : TypeId) (v v' r : Value), VR ρ v v' → followA P path t v = some (xt, r) → ∃ r', (follow path t (.val v')).run P w = .ok (xt, .val r') w ∧ VR ρ r r' := by
  intro path
  induction path with
  | nil => intro t xt v v' r hv h; simp only [followA] at h; cases h; exact ⟨v', rfl, hv⟩
  | cons f rest ih =>
    intro t xt v v' r hv h
    simp only [followA] at h
    split at h
    · rename_i fs hu
      split at h
      · rename_i fl hfl
        split at h
        · cases h
        · rename_i hd
          split at h
          · rename_i cs k hs
            split at h
            · rename_i u hfld
              obtain ⟨ds, rfl, hsz, hall⟩ := hv.agg_inv
              obtain ⟨u', hr, hur⟩ := part_run (w := w) hs hsz hall hfld
              obtain ⟨r', hr2, hrr⟩ := ih fl.type xt u u' r hur h
              refine ⟨r', ?_, hrr⟩
              simp only [follow, Sem.run_bind, run_und hu, Result.andThen_ok, hfl]
              rw [if_neg hd]
              simp only [Sem.run_bind, hr, Result.andThen_ok, hr2]
            · cases h
          · cases h
      · cases h
    · cases h
theorem inv_run {name : String} {x x' : Value} {f : FuncId} {r : Value} (hx : VR ρ x x') (h : invA P name x = some (f, r)) :
    ∃ t v', x' = .iface t v' ∧ ∃ r', (∀ fuel, (method (fuel + 1) t v' name).run P w = .ok (f, r') w) ∧ VR ρ r r' := by
  unfold invA at h
  split at h
  · rename_i t v
    cases hx with
    | ifc hv =>
    rename_i v'
    refine ⟨t, v', rfl, ?_⟩
    split at h
    · rename_i i hi
      split at h
      · rename_i m hm
        split at h
        · rename_i g hf
          split at h
          · rename_i xt r0 hfo
            obtain ⟨r', hr, hrr⟩ := follow_run (w := w) m.path.toList t xt v v' r0 hv hfo
            split at h
            · cases h
            · rename_i d hu hnp
              cases h
              refine ⟨r', fun fuel => ?_, hrr⟩
              simp only [method, Sem.run_bind, run_inf hi, Result.andThen_ok, hm, hr, hf]
              simp only [receiverAt, Sem.run_bind, run_und hnp, Result.andThen_ok]
              cases d <;> first | (exfalso; exact hu _ rfl) | (simp only [Place.get, Sem.run_pure, Result.andThen_ok])
            · cases h
          · cases h
        · cases h
      · cases h
    · cases h
  · cases h
/-- An operation is sound. -/
theorem step_sound0 {o : Oper} {x : AOp} {K : Value → Mem → Prop} {next : Act → World → Prop} {Q : Exit → Act → World → Prop} (h : SRel lw W0 base ρ n s a w) (hc : cop0 P n o = some x) (hs : step P s x K) (g : Goes W0 base ρ o a K next) :
    o.wp P a w next Q := by
  unfold cop0 at hc
  split at hc
  · rename_i x' hcr
    split at hc
    · rename_i hR
      cases hc
      obtain ⟨v, hv, hk⟩ := step_rd hR hs
      obtain ⟨v', hr, hvr⟩ := rd_sound h hcr hv
      exact g.value hr hk (List.prefix_refl _) h.mem hvr
    · cases hc
  · rename_i hnone
    clear hnone
    obtain ⟨dst, op, ty, pos, after, guard⟩ := o
    cases op with
    | box e y =>
      simp only [copE] at hc
      split at hc
      · rename_i hok
        cases hc
        simp only [step] at hs
        have hv := (h.ev hok).cells
        refine alloc_sound h.mem g hv ?_ hs (new_ptr h.mem _)
        simp only [execOp]
        exact run_v (by simp only [Instr.box, newVar, Sem.run_bind, run_newRow, Result.andThen_ok, Sem.run_pure])
      · cases hc
    | alloc e =>
      simp only [copE] at hc
      split at hc
      · rename_i z hz
        split at hc
        · rename_i hok
          cases hc
          simp only [step] at hs
          obtain ⟨inf, hinf, hzero⟩ := Option.bind_eq_some_iff.1 hz
          refine alloc_sound h.mem g (VL.consts (zs := z.cells.toList) (by simpa using hok)) ?_ hs (new_ptr h.mem _)
          simp only [execOp]
          exact run_v (by simp only [Instr.alloc, zeroValue, run_inf hinf, hzero, newVar, Sem.run_bind, run_newRow, Result.andThen_ok, Sem.run_pure])
        · cases hc
      · cases hc
    | buildSlice t len parts =>
      simp only [copE] at hc
      split at hc
      · rename_i hok
        split at hc
        · rename_i e hu
          split at hc
          · rename_i inf hinf
            split at hc
            · rename_i z hz
              split at hc
              · rename_i hcond
                simp only [Bool.and_eq_true, decide_eq_true_eq] at hcond
                obtain ⟨⟨hsz, hlen⟩, hcst⟩ := hcond
                cases hps : partsAt (fun j => some (j * inf.size, inf.size)) parts.toList with
                | none => rw [hps] at hc; cases hc
                | some ps =>
                  rw [hps] at hc
                  cases hc
                  simp only [step] at hs
                  split at hs
                  · rename_i cs hcs
                    obtain ⟨ys, hf, hvl⟩ := fill_parts h (by simpa using hok) hps (VL.consts (by rw [Array.all_toList]; exact hcst)) hcs
                    rw [Array.toArray_toList] at hf
                    have hyl : ys.size = len * inf.size := by
                      have hk : ∀ (ps : List (Nat × Nat × Value)) (cs cs' : List Value), fillA cs ps = some cs' → cs'.length = cs.length := by
                        intro ps
                        induction ps with
                        | nil => intro cs cs' h; simp [fillA] at h; rw [h]
                        | cons p ps ih =>
                          intro cs cs' h
                          obtain ⟨off, sz, v⟩ := p
                          simp only [fillA] at h
                          split at h
                          · rw [ih _ _ h, putL_len]
                          · cases h
                      have := hk _ _ _ hcs
                      rw [← hvl.getElem, this]
                      simp
                    have hle : len ≤ maxLen := by
                      unfold maxLen
                      have := Nat.le_mul_of_pos_right len hsz
                      omega
                    have hnew := new_sl h.mem (k := len) (c := len) (sz := inf.size) (Nat.le_refl _) hle
                    rw [← hyl] at hnew
                    refine alloc_sound h.mem g hvl ?_ hs hnew
                    simp only [execOp]
                    have hs1 : sizeP P e = some inf.size := by simp [sizeP, hinf]
                    refine run_v ?_
                    simp only [Instr.buildSlice, Sem.run_bind, run_und hu, Result.andThen_ok, run_siz hs1]
                    rw [if_neg (by omega)]
                    have e2 : (Array.map (fun (x : Nat × Operand) => (x.1, a.eval x.2)) parts).toList = parts.toList.map fun p => (p.1, a.eval p.2) := by simp
                    rw [e2]
                    by_cases h0 : len * inf.size = 0
                    · rw [if_pos h0]
                      have e0 : ∀ (q : Array Value), (Array.range (len * inf.size)).map (fun x => q[x % q.size]!) = #[] := fun q => Array.eq_empty_of_size_eq_zero (by simp [h0])
                      rw [e0] at hf
                      simp only [Sem.run_bind, Sem.run_pure, Result.andThen_ok]
                      rw [e0, hf]
                      simp only [Sem.run_bind, run_newRow, Result.andThen_ok, Sem.run_pure]
                    · rw [if_neg h0]
                      simp only [Sem.run_bind, zeroValue, run_inf hinf, hz, Sem.run_pure, Result.andThen_ok]
                      rw [hf]
                      simp only [Sem.run_bind, run_newRow, Result.andThen_ok, Sem.run_pure]
                  · exact hs.elim
              · cases hc
            · cases hc
          · cases hc
        · cases hc
      · cases hc
    | makeSlice t l c =>
      simp only [copE, Bool.and_eq_true] at hc
      split at hc
      · rename_i hok
        split at hc
        · rename_i e hu
          split at hc
          · rename_i inf hinf
            split at hc
            · rename_i z hz
              split at hc
              · rename_i hcond
                simp only [beq_iff_eq, decide_eq_true_eq] at hcond
                obtain ⟨⟨h1, h2⟩, h3⟩ := hcond
                cases hc
                simp only [step] at hs
                split at hs
                · rename_i k1 p k2 q hp hq
                  obtain ⟨⟨hp0, hpq, hb, hb2⟩, hk⟩ := hs
                  have e1 := h.ev hok.1
                  have e2 := h.ev hok.2
                  rw [hp] at e1
                  rw [hq] at e2
                  have hr := run_make (P := P) w t e inf z hu hinf hz k1 k2 p q hp0 hpq (by rw [Int.mul_comm]; omega) (by omega)
                  have hzl : z.cells.toList.length = inf.size := by simpa using h2
                  have hsz : (madeCells z.cells (q.toNat * inf.size)).size = q.toNat * inf.size := size_madeCells _ _
                  have hnew := new_sl h.mem (k := p.toNat) (c := q.toNat) (sz := inf.size) (by omega) (by unfold maxLen; omega)
                  have hpq' : p.toNat * inf.size ≤ q.toNat * inf.size := Nat.mul_le_mul_right _ (by omega)
                  have hal := h.mem.alloc (e := e) (xs := repL p.toNat z.cells.toList) (cur := madeCells z.cells (q.toNat * inf.size)) (by rw [repL_len, hzl, hsz]; exact hpq') (fun k x hx => by
                    have hkl := (List.getElem?_eq_some_iff.1 hx).1
                    rw [repL_len, hzl] at hkl
                    rw [repL_at _ _ _ (by rw [hzl]; exact hkl), hzl] at hx
                    have hm : k % inf.size < z.cells.size := by rw [h2]; exact Nat.mod_lt _ h1
                    rw [Array.getElem?_toList, Array.getElem?_eq_getElem hm] at hx
                    cases hx
                    refine ⟨_, by unfold madeCells; rw [Array.getElem?_map, Array.getElem?_range, if_pos (by omega)]; rfl, ?_⟩
                    rw [h2]
                    show VR ρ _ (z.cells[k % inf.size]!)
                    rw [getElem!_pos z.cells (k % inf.size) hm]
                    exact VR.const (Array.all_eq_true.1 h3 _ hm))
                  rw [hsz] at hal
                  rw [hzl] at hk
                  refine g.value ?_ hk (pre_snoc _ _) hal hnew
                  simp only [execOp, e1.int_inv, e2.int_inv]
                  exact run_v hr
                · exact hs.elim
              · cases hc
            · cases hc
          · cases hc
        · cases hc
      · cases hc
    | store t p y =>
      simp only [copE, Bool.and_eq_true] at hc
      split at hc
      · rename_i hok
        cases hsz : sizeP P t with
        | none => rw [hsz] at hc; cases hc
        | some k =>
          rw [hsz] at hc
          cases hc
          simp only [step] at hs
          split at hs
          · rename_i id off hp
            split at hs
            · rename_i hcz
              split at hs
              · rename_i m' hst
                have e1 := h.ev hok.1
                have e2 := (h.ev hok.2).cells
                rw [hp] at e1
                unfold stA at hst
                split at hst
                · rename_i bl hbl
                  split at hst
                  · rename_i hcond
                    obtain ⟨hkd, hlen, hones⟩ := hcond
                    cases hst
                    obtain ⟨kd, el, cs⟩ := bl
                    simp only [] at hkd hlen
                    subst hkd
                    generalize hpv : a.eval p = pv at *
                    cases e1 with
                    | @ptr _ _ b o2 tot hpl =>
                      obtain ⟨b', tot', hp', hl2, _⟩ := h.mem.own id el cs hbl
                      rw [hpl] at hp'
                      cases hp'
                      obtain ⟨w', hr, hm'⟩ := stores_run (P := P) (a.eval y).cells.toList (s.ev y).cells.toList s.m w el cs off 0 id b tot h.mem hbl hpl (by simpa using hlen) e2 hones
                      have hsz2 : (a.eval y).cells.size = k := by have := e2.1; simp at this; omega
                      unfold Oper.wp
                      have : (execOp a.eval ⟨dst, .store t p y, ty, pos, after, guard⟩).run P w = .ok .skip w' := by
                        simp only [execOp, hpv, Instr.storeAt, Instr.sureAddr, storeVar, Sem.run_bind, Sem.run_pure, Result.andThen_ok, run_siz hsz, hsz2, Nat.zero_add]
                        rw [if_neg (by simp)]
                        simp only [Result.andThen_ok, hr]
                      rw [this]
                      exact g undef undef _ ρ w' hs (List.prefix_refl _) (by simpa using hm') (undef_rel _)
                  · cases hst
                · cases hst
              · exact hs.elim
            · exact hs.elim
          · exact hs.elim
      · cases hc
    | makeMap t r =>
      cases r with
      | some r => simp only [copE] at hc; cases hc
      | none =>
        simp only [copE] at hc
        cases hc
        simp only [step] at hs
        refine g.value (w' := w.alloc (.map #[] 0)) (v' := .map (some w.heap.size)) ?_ hs (pre_snoc _ (w.heap.size, 0, 0)) (h.mem.newMap t) (.map (by rw [← h.mem.len]; simp))
        simp only [execOp]
        exact run_v rfl
    | insert t mo k x => exact mup_sound (o := ⟨dst, .insert t mo k x, ty, pos, after, guard⟩) h (.inl rfl) hc hs g
    | mapUpdate t mo k x => exact mup_sound (o := ⟨dst, .mapUpdate t mo k x, ty, pos, after, guard⟩) h (.inr rfl) hc hs g
    | lookup t mo k ok =>
      simp only [copE] at hc
      split at hc
      · rename_i hok
        simp only [Bool.and_eq_true] at hok
        split at hc
        · rename_i kt e hu
          split at hc
          · rename_i z hz
            split at hc
            · rename_i hcond
              simp only [Bool.and_eq_true] at hcond
              cases hc
              simp only [step] at hs
              split at hs
              · rename_i v hv
                obtain ⟨inf, hinf, hzero⟩ := Option.bind_eq_some_iff.1 hz
                obtain ⟨v', hrun, hvr⟩ := lk_run hu (intKey_spec hcond.1) (z := z) (fun w => by simp only [zeroValue, run_inf hinf, hzero, Sem.run_bind, Result.andThen_ok, Sem.run_pure]) (zero_rel _ hcond.2) h.mem (h.ev hok.1) (h.ev hok.2) hv
                refine g.value ?_ hs (List.prefix_refl _) h.mem hvr
                simp only [execOp]
                exact run_v hrun
              · exact hs.elim
            · cases hc
          · cases hc
        · cases hc
      · cases hc
    | call c =>
      obtain ⟨callee, args, argTypes⟩ := c
      simp only [copE] at hc
      unfold copCall at hc
      split at hc
      · rename_i _ xs _ f
        split at hc
        · rename_i hok
          simp only [Bool.and_eq_true] at hok
          cases hc
          simp only [step] at hs
          split at hs
          · rename_i gf first cap hf
            obtain ⟨⟨fn, hfn, hn1, hn2⟩, hcalls⟩ := hs
            obtain ⟨first', cap', hfe, hvl⟩ := call_args (xs := []) h hok.1 hok.2 hf
            have hcall := hcalls W0 base ρ w _ h.mem hvl
            unfold Oper.wp
            have : (execOp a.eval ⟨dst, .call ⟨.value f, args, argTypes⟩, ty, pos, after, guard⟩).run P w = .ok (.enter gf (first'.toList ++ args.toList.map a.eval ++ cap'.toList).toArray) w := by
              simp only [execOp, resolve, Deferred.ofValue, hfe, invoke, Sem.run_bind, Sem.run_pure, Result.andThen_ok, callFunc, program, Sem.run, hfn, hn1, hn2, Bool.false_eq_true, if_false]
              congr 1
              simp [← Array.toList_map]
            rw [this, Oper.upon_enter]
            refine hcall.mono ?_
            rintro e w' ⟨v, v', m', ρ', rfl, hk, hp, hm, hv⟩
            exact g v v' m' ρ' w' hk hp hm hv
          · exact hs.elim
        · cases hc
      · rename_i _ xs _ y name
        split at hc
        · rename_i hok
          simp only [Bool.and_eq_true] at hok
          cases hc
          simp only [step] at hs
          split at hs
          · rename_i r hr
            obtain ⟨f, rv⟩ := r
            obtain ⟨⟨fn, hfn, hn1, hn2⟩, hcalls⟩ := RC.ac (m := s.m) (Q := K) hs
            obtain ⟨t, v', hx, rv', hmeth, hrv⟩ := inv_run (w := w) (h.ev hok.1) hr
            have hcall := hcalls W0 base ρ w (rv' :: args.toList.map a.eval) h.mem (.cons hrv (evs_rel h hok.2))
            unfold Oper.wp
            have : (execOp a.eval ⟨dst, .call ⟨.invoke y name, args, argTypes⟩, ty, pos, after, guard⟩).run P w = .ok (.enter f (rv' :: args.toList.map a.eval).toArray) w := by
              simp only [execOp, resolve, hx, invoke, callMethod, Sem.run_bind, Sem.run_pure, Result.andThen_ok]
              have e0 : (#[Value.iface t v'] ++ Array.map a.eval args)[0]? = some (.iface t v') := by rw [Array.getElem?_append_left (by simp)]; rfl
              have hp : (program).run P w = .ok P w := rfl
              have e1 : (#[rv'] ++ (#[Value.iface t v'] ++ Array.map a.eval args).extract 1) = (rv' :: args.toList.map a.eval).toArray := by
                apply Array.toList_inj.1
                simp
                exact List.take_of_length_le (by simp)
              simp only [e0, Sem.run_bind, hp, Result.andThen_ok]
              rw [show P.types.size + Made.depth = (P.types.size + 99) + 1 from rfl, hmeth]
              simp only [Result.andThen_ok, e1, callFunc, Sem.run_bind, hp]
              have hfn' : P.funcs[f]? = some fn := hfn
              rw [hfn']
              simp only [hn1, hn2, Bool.false_eq_true, if_false, Sem.run_pure]
            rw [this, Oper.upon_enter]
            refine hcall.mono ?_
            rintro e w' ⟨v, v', m', ρ', rfl, hk, hp, hm, hv⟩
            exact g v v' m' ρ' w' hk hp hm hv
          · exact hs.elim
        · cases hc
      · rename_i x t h1 h2
        split at hc
        · rename_i hok
          have e1 : args = #[x] := by rw [← Array.toArray_toList (xs := args), h1]
          have e2 : argTypes = #[t] := by rw [← Array.toArray_toList (xs := argTypes), h2]
          subst e1
          subst e2
          split at hc
          · rename_i e hu
            split at hc
            · rename_i z hz
              split at hc
              · rename_i hcond
                simp only [Bool.and_eq_true, decide_eq_true_eq] at hcond
                cases hc
                simp only [step] at hs
                split at hs
                · rename_i m' hm'
                  obtain ⟨inf, hinf, hzero⟩ := Option.bind_eq_some_iff.1 hz
                  obtain ⟨w', hrun, hmr⟩ := clr_run (ty := ty) hu hinf hzero hcond.1 hcond.2 h.mem (h.ev hok) hm'
                  refine g.value (v' := undef) ?_ hs (List.prefix_refl _) hmr (undef_rel _)
                  simp only [execOp, resolve, invoke, builtin, Sem.run_bind, Sem.run_pure, Result.andThen_ok, List.map_toArray, List.map_cons, List.map_nil, hrun]
                · exact hs.elim
              · cases hc
            · cases hc
          · cases hc
        · cases hc
      · rename_i y x t u h1 h2
        split at hc
        · rename_i hok
          simp only [Bool.and_eq_true, beq_iff_eq] at hok
          obtain ⟨⟨hoy, hox⟩, rfl⟩ := hok
          have e1 : args = #[y, x] := by rw [← Array.toArray_toList (xs := args), h1]
          have e2 : argTypes = #[t, t] := by rw [← Array.toArray_toList (xs := argTypes), h2]
          subst e1
          subst e2
          split at hc
          · rename_i e hu
            split at hc
            · rename_i inf hinf
              split at hc
              · rename_i z hz
                split at hc
                · rename_i hcond
                  simp only [Bool.and_eq_true, decide_eq_true_eq, beq_iff_eq] at hcond
                  cases hc
                  simp only [step] at hs
                  split at hs
                  · rename_i xs hxs
                    obtain ⟨hones, hs⟩ := hs
                    split at hs
                    · rename_i r hr
                      obtain ⟨v', w', ρ', hrun, hp, hm, hv⟩ := app_run hu hinf hz hcond.2 hcond.1 (ty := ty) h.mem (h.ev hoy) (h.ev hox) hxs hones hr
                      refine g.value ?_ hs hp hm hv
                      simp only [execOp, resolve, invoke, builtin, Sem.run_bind, Sem.run_pure, Result.andThen_ok, List.map_toArray, List.map_cons, List.map_nil, hrun]
                    · exact hs.elim
                  · exact hs.elim
                · cases hc
              · cases hc
            · cases hc
          · cases hc
        · split at hc
          · rename_i hok
            simp only [Bool.and_eq_true] at hok
            have e1 : args = #[y, x] := by rw [← Array.toArray_toList (xs := args), h1]
            have e2 : argTypes = #[t, u] := by rw [← Array.toArray_toList (xs := argTypes), h2]
            subst e1
            subst e2
            unfold copApz at hc
            split at hc
            · rename_i e hu hv
              split at hc
              · rename_i inf hinf
                split at hc
                · rename_i z hz
                  split at hc
                  · rename_i hcond
                    simp only [Bool.and_eq_true, decide_eq_true_eq, beq_iff_eq] at hcond
                    cases hc
                    simp only [step] at hs
                    split at hs
                    · rename_i r hr
                      obtain ⟨v', w', ρ', hrun, hp, hm, hvr⟩ := apz_run hu hv hinf hz hcond.1.1 hcond.1.2 hcond.2 (ty := ty) h.mem (h.ev hok.1) (h.ev hok.2) hr
                      refine g.value ?_ hs hp hm hvr
                      simp only [execOp, resolve, invoke, builtin, Sem.run_bind, Sem.run_pure, Result.andThen_ok, List.map_toArray, List.map_cons, List.map_nil, hrun]
                    · exact hs.elim
                  · cases hc
                · cases hc
              · cases hc
            · cases hc
          · cases hc
      · rename_i y x t u h1 h2
        split at hc
        · rename_i hok
          simp only [Bool.and_eq_true, beq_iff_eq] at hok
          obtain ⟨⟨hoy, hox⟩, rfl⟩ := hok
          have e1 : args = #[y, x] := by rw [← Array.toArray_toList (xs := args), h1]
          have e2 : argTypes = #[t, t] := by rw [← Array.toArray_toList (xs := argTypes), h2]
          subst e1
          subst e2
          split at hc
          · rename_i e hu
            split at hc
            · rename_i sz hsz
              split at hc
              · rename_i hpos
                cases hc
                simp only [step] at hs
                split at hs
                · rename_i r hr
                  obtain ⟨v', w', hrun, hm, hv⟩ := cpy_run (ty := ty) hu hsz hpos h.mem (h.ev hoy) (h.ev hox) hr
                  refine g.value ?_ hs (List.prefix_refl _) hm hv
                  simp only [execOp, resolve, invoke, builtin, Sem.run_bind, Sem.run_pure, Result.andThen_ok, List.map_toArray, List.map_cons, List.map_nil, hrun]
                · exact hs.elim
              · cases hc
            · cases hc
          · cases hc
        · cases hc
      · cases hc
    | _ => simp only [copE] at hc; cases hc

theorem step_sound {o : Oper} {x : AOp} {K : Value → Mem → Prop} {next : Act → World → Prop} {Q : Exit → Act → World → Prop} (h : SRel lw W0 base ρ n s a w) (hc : cop P n o = some x) (hs : step P s x K) (g : Goes W0 base ρ o a K next) :
    o.wp P a w next Q := by
  unfold cop at hc
  cases hc0 : cop0 P n o with
  | none =>
    rw [hc0] at hc
    cases hc
    simp [step, rdA] at hs
  | some y =>
    rw [hc0] at hc
    cases hc
    exact step_sound0 h hc0 hs g
/-- The fence that lets all in, within a round of a range over a function or not. -/
def fen (r : Option Nat) : Fence := { Fence.wide with round := r }
variable {r0 : Option Nat} {fu : Nat}
theorem fen_calls {f : FuncId} {args : Array Value} {R : Ending → World → Prop} (h : Calls P f args w R) : CallsIn (fen r0) fu P f args w R :=
  (callsIn_wide (n := fu)).2 h
theorem fen_rows {row : String} {args : Array Value} {R : Value → World → Prop} (h : Rows P row args w R) : RowsIn (fen r0) fu P row args w R := fun c cs _ =>
  let ⟨v, w', r, s⟩ := h c cs; ⟨v, w', r, stepsIn_wide.2 s⟩
theorem toIn {o : Oper} {next : Act → World → Prop} {Q : Exit → Act → World → Prop} (h : o.wp P a w next Q) (hsem : ∀ c, o.op ≠ .defer c) : o.wpIn (fen r0) fu P a w next Q := by
  refine ⟨fun _ _ => trivial, ?_⟩
  show o.uponIn _ _ _ _ _ _ ((o.semAt r0 a.eval).run P w)
  rw [Oper.semAt_eq r0 a.eval o hsem]
  unfold Oper.wp at h
  cases hr : (execOp a.eval o).run P w with
  | ok x w' =>
    rw [hr] at h
    cases x <;> simp only [Oper.upon, Oper.uponIn] at h ⊢ <;>
      first
        | exact h
        | exact ⟨fun hd => (by cases hd), fen_calls h⟩
        | exact ⟨fun hd => (by cases hd), fen_rows h⟩
  | halt x w' =>
    rw [hr] at h
    cases x <;> simp only [Oper.upon, Oper.uponIn] at h ⊢ <;> exact h
theorem cop_noDefer {o : Oper} {x : AOp} (h : cop0 P n o = some x) : ∀ c, o.op ≠ .defer c := by
  intro c hc
  obtain ⟨d, op, t, ps, af, g⟩ := o
  simp only at hc
  subst hc
  simp [cop0, copR, copE] at h
theorem step_noDefer {o : Oper} {x : AOp} {K : Value → Mem → Prop} (hc : cop P n o = some x) (hs : step P s x K) : ∀ c, o.op ≠ .defer c := by
  unfold cop at hc
  cases h0 : cop0 P n o with
  | some y => exact cop_noDefer h0
  | none => rw [h0] at hc; cases hc; exact hs.elim
/-- A row of a region: where its value goes, the operation, on what it waits. -/
structure ARow where
  dst : Option Nat
  op : AOp
  guard : Option (Nat × Bool)
def guardOn (s : St) : Option (Nat × Bool) → Option Bool
  | none => some true
  | some (g, want) => match s.t g with
    | .bool b => some (b == want)
    | .tuple _ => some false
    | _ => none
def stepRow (P : Program) (s : St) (r : ARow) (K : St → Prop) : Prop := match guardOn s r.guard with
  | some true => step P s r.op fun v m => K (s.put r.dst v m)
  | some false => K (s.put r.dst undef s.m)
  | none => False
def runL (P : Program) : St → List ARow → (St → Prop) → Prop
  | s, [], K => K s
  | s, r :: rest, K => stepRow P s r fun s' => runL P s' rest K
def dstOk (n : Nat) : Option Nat → Bool
  | none => true
  | some d => d < n
def cguard (n : Nat) (ops : Array Oper) : Option (Nat × Bool) → Option (Option (Nat × Bool))
  | none => some none
  | some (j, want) => match (ops[j]?).bind (·.dst) with
    | some d => if d < n then some (some (d, want)) else none
    | none => none
/-- A pointer to a cursor: three cells, the last one unsigned. -/
def curPtr (P : Program) (t : TypeId) : Bool := match P.underlying t with
  | some (.pointer e) => (match P.underlying e with
    | some (.struct fs) => fs.size == 3 && (match fs[2]? with
      | some f => (match P.underlying f.type with
        | some (.int .u64) => true
        | _ => false)
      | none => false)
    | _ => false)
  | _ => false
/-- slices.DeleteFunc, told by its size: it writes into what it is given. -/
def cutFn (P : Program) (fn : Go.Func) : Bool := fn.ntmps == 42 && fn.params.size == 2 && (match fn.params[1]? with
  | some t => (match P.underlying t with
    | some (.func _ _ _) => true
    | _ => false)
  | none => false)
/-- A method of a cursor: it writes. -/
def ptrCall (P : Program) : Operand → Bool
  | .func g => match P.funcs[g]? with
    | some fn => cutFn P fn || (match fn.params[0]? with
      | some t => curPtr P t
      | none => false)
    | none => false
  | _ => false
/-- In a region that draws its order a call is one that leaves what was there, but for a cursor's methods. -/
def mild (P : Program) (draw : Bool) : AOp → AOp
  | .call f args => if draw && !ptrCall P f then .rcall f args else .call f args
  | x => x
def crow (P : Program) (n : Nat) (draw : Bool) (ops : Array Oper) (o : Oper) : Option ARow := match cop P n o, cguard n ops o.guard with
  | some x, some g => if dstOk n o.dst then some ⟨o.dst, mild P draw x, g⟩ else none
  | _, _ => none
theorem guard_sound {ops : Array Oper} {o : Oper} {g : Option (Nat × Bool)} {b : Bool} (h : SRel lw W0 base ρ n s a w) (hc : cguard n ops o.guard = some g) (hg : guardOn s g = some b) : Region.wanted o (yielded ops a.tmps) = b := by
  unfold Region.wanted
  unfold cguard at hc
  split at hc
  · rename_i hn
    cases hc
    simp only [guardOn, Option.some.injEq] at hg
    rw [hn]
    exact hg
  · rename_i j want hn
    split at hc
    · rename_i d hd
      split at hc
      · rename_i hlt
        cases hc
        simp only [guardOn] at hg
        rw [hn]
        simp only [yielded, hd, Option.bind_some]
        have hv := h.tmps d hlt
        have hsome : a.tmps[d]? = some (a.tmps.getD d undef) := by
          rw [Array.getElem?_eq_getElem (by rw [h.size]; exact hlt)]
          simp [Array.getD_eq_getD_getElem?, h.size, hlt]
        rw [hsome]
        generalize a.tmps.getD d undef = y at *
        split at hg
        · rename_i b' hb
          rw [hb] at hv
          obtain rfl := hv.bool_inv
          cases hg
          cases b' <;> cases want <;> rfl
        · rename_i q hb
          rw [hb] at hv
          cases hv
          cases hg
          rfl
        · cases hg
      · cases hc
    · cases hc
theorem mild_step {draw : Bool} {x : AOp} {K : Value → Mem → Prop} (h : step P s (mild P draw x) K) : step P s x K := by
  cases x <;> first | exact h | skip
  rename_i f args
  simp only [mild] at h
  split at h
  · simp only [step] at h ⊢
    split
    · rename_i g first cap hf
      rw [hf] at h
      exact RC.ac h
    · rename_i hno
      split at h
      · rename_i g first cap hf
        exact absurd hf (hno g first cap)
      · exact h
  · exact h
theorem row_sound {draw : Bool} {ops : Array Oper} {o : Oper} {r : ARow} {K : St → Prop} {next : Act → World → Prop} {Q : Exit → Act → World → Prop} (h : SRel lw W0 base ρ n s a w) (hc : crow P n draw ops o = some r) (hs : stepRow P s r K)
    (hn : ∀ (s' : St) (ρ' : Places) (a' : Act) (w' : World), K s' → ρ <+: ρ' → SRel lw W0 base ρ' n s' a' w' → next a' w') :
    if Region.wanted o (yielded ops a.tmps) then o.wpIn (fen r0) fu P a w next Q else (∀ f, o.about P w a.eval = some f → (fen r0).fn f) ∧ next (a.put o.dst undef) w := by
  unfold crow at hc
  split at hc
  · rename_i x g hx hg
    split at hc
    · rename_i hd
      cases hc
      have hd' : ∀ i, o.dst = some i → i < n := fun i hi => by rw [hi] at hd; simpa [dstOk] using hd
      simp only [stepRow] at hs
      split at hs
      · rename_i hgo
        rw [guard_sound h hg hgo]
        simp only [if_true]
        refine toIn (step_sound h hx (mild_step hs) fun v v' m' ρ' w' hk hp hm hv => hn _ ρ' _ w' hk hp (h.put hp hm hv hd')) (step_noDefer hx (mild_step hs))
      · rename_i hgo
        rw [guard_sound h hg hgo]
        simp only [Bool.false_eq_true, if_false]
        exact ⟨fun _ _ => trivial, hn _ ρ _ w hs (List.prefix_refl _) (h.put (List.prefix_refl _) h.mem (undef_rel _) hd')⟩
      · exact hs.elim
    · cases hc
  · cases hc
def crows (P : Program) (n : Nat) (draw : Bool) (ops : Array Oper) : List Oper → Option (List ARow)
  | [] => some []
  | o :: os => match crow P n draw ops o, crows P n draw ops os with
    | some r, some rs => some (r :: rs)
    | _, _ => none
theorem runL_sound {draw : Bool} {ops : Array Oper} {Q : Exit → Act → World → Prop} {K : St → Prop} : ∀ (os : List Oper) (rows : List ARow) (s : St) (ρ : Places) (a : Act) (w : World), crows P n draw ops os = some rows → runL P s rows K → SRel lw W0 base ρ n s a w →
    (∀ (s' : St) (ρ' : Places) (a' : Act) (w' : World), K s' → ρ <+: ρ' → SRel lw W0 base ρ' n s' a' w' → Q .normal a' w') → wpListIn (fen r0) fu P ops Q os a w := by
  intro os
  induction os with
  | nil =>
    intro rows s ρ a w hc hr h hq
    simp [crows] at hc
    subst hc
    exact hq s ρ a w hr (List.prefix_refl _) h
  | cons o os ih =>
    intro rows s ρ a w hc hr h hq
    simp only [crows] at hc
    split at hc
    · rename_i r rs hr1 hr2
      cases hc
      simp only [runL] at hr
      refine wpListIn_step fun K' hK' => ?_
      exact row_sound h hr1 hr fun s' ρ' a' w' hk hp hs' => hK' _ _ (ih rs s' ρ' a' w' hr2 hk hs' fun s2 ρ2 a2 w2 h2 hp2 hs2 => hq s2 ρ2 a2 w2 h2 (hp.trans hp2) hs2)
    · cases hc
def AOp.opds : AOp → List Operand
  | .mv x | .un _ x | .conv _ x | .ld _ x | .fld _ _ x | .fad _ x | .len x | .lens x | .ext _ x | .nilc x | .mif _ x | .sln _ x | .ptn _ x | .cpz x | .box _ x | .clr _ x => [x]
  | .mmx _ x y | .cpy _ x y | .apz _ _ _ x y => [x, y]
  | .pick c x y => [c, x, y]
  | .bin _ x y | .beq _ x y | .aeq _ _ x y | .iad _ x y | .iada _ _ x y | .idxs x y | .idxa _ _ _ x y | .mks _ _ _ x y | .st _ x y | .app _ _ _ x y => [x, y]
  | .slc _ x lo hi | .slcs x lo hi | .slcp _ _ x lo hi => x :: (lo.toList ++ hi.toList)
  | .mkf _ xs ys => xs ++ ys
  | .bld _ ps | .bsl _ _ _ _ ps => ps.map (·.2.2)
  | .alc _ _ | .mkm _ | .never => []
  | .mup m k x => [m, k, x]
  | .lkp _ _ m k => [m, k]
  | .call f xs | .rcall f xs => f :: xs
  | .inv x _ xs => x :: xs
theorem opt_congr {s s' : St} {o : Option Operand} (h : ∀ x ∈ o.toList, s.ev x = s'.ev x) : o.map s.ev = o.map s'.ev := by
  cases o with
  | none => rfl
  | some x => simp [h x (by simp)]
theorem map_congr' {s s' : St} {xs : List Operand} (h : ∀ x ∈ xs, s.ev x = s'.ev x) : xs.map s.ev = xs.map s'.ev := List.map_congr_left h
theorem parts_congr {s s' : St} {ps : List (Nat × Nat × Operand)} (h : ∀ x ∈ ps.map (·.2.2), s.ev x = s'.ev x) : (ps.map fun p => (p.1, p.2.1, s.ev p.2.2)) = (ps.map fun p => (p.1, p.2.1, s'.ev p.2.2)) :=
  List.map_congr_left fun p hp => by rw [h p.2.2 (List.mem_map.2 ⟨p, hp, rfl⟩)]
theorem rdA_congr {s s' : St} {x : AOp} (h : ∀ o ∈ x.opds, s.ev o = s'.ev o) (hm : s.m = s'.m) : rdA s x = rdA s' x := by
  cases x with
  | slc sz x lo hi =>
    have h1 := opt_congr (o := lo) (fun y hy => h y (by simp only [AOp.opds, List.mem_cons, List.mem_append]; exact .inr (.inl hy)))
    have h2 := opt_congr (o := hi) (fun y hy => h y (by simp only [AOp.opds, List.mem_cons, List.mem_append]; exact .inr (.inr hy)))
    simp only [rdA, h1, h2, h x (by simp [AOp.opds])]
  | slcs x lo hi =>
    have h1 := opt_congr (o := lo) (fun y hy => h y (by simp only [AOp.opds, List.mem_cons, List.mem_append]; exact .inr (.inl hy)))
    have h2 := opt_congr (o := hi) (fun y hy => h y (by simp only [AOp.opds, List.mem_cons, List.mem_append]; exact .inr (.inr hy)))
    simp only [rdA, h1, h2, h x (by simp [AOp.opds])]
  | slcp sz l x lo hi =>
    have h1 := opt_congr (o := lo) (fun y hy => h y (by simp only [AOp.opds, List.mem_cons, List.mem_append]; exact .inr (.inl hy)))
    have h2 := opt_congr (o := hi) (fun y hy => h y (by simp only [AOp.opds, List.mem_cons, List.mem_append]; exact .inr (.inr hy)))
    simp only [rdA, h1, h2, h x (by simp [AOp.opds])]
  | mkf f xs ys =>
    have h1 := map_congr' (xs := xs) (fun y hy => h y (by simp only [AOp.opds, List.mem_append]; exact .inl hy))
    have h2 := map_congr' (xs := ys) (fun y hy => h y (by simp only [AOp.opds, List.mem_append]; exact .inr hy))
    simp only [rdA, h1, h2]
  | bld z ps =>
    have h1 := parts_congr (ps := ps) (fun y hy => h y hy)
    simp only [rdA, h1]
  | pick c x y => simp only [rdA, h c (by simp [AOp.opds]), h x (by simp [AOp.opds]), h y (by simp [AOp.opds])]
  | bin _ x y => simp only [rdA, h x (by simp [AOp.opds]), h y (by simp [AOp.opds])]
  | aeq _ _ x y => simp only [rdA, h x (by simp [AOp.opds]), h y (by simp [AOp.opds])]
  | beq _ x y => simp only [rdA, h x (by simp [AOp.opds]), h y (by simp [AOp.opds])]
  | iad _ x y => simp only [rdA, h x (by simp [AOp.opds]), h y (by simp [AOp.opds])]
  | iada _ _ x y => simp only [rdA, h x (by simp [AOp.opds]), h y (by simp [AOp.opds])]
  | idxs x y => simp only [rdA, h x (by simp [AOp.opds]), h y (by simp [AOp.opds])]
  | idxa _ _ _ x y => simp only [rdA, h x (by simp [AOp.opds]), h y (by simp [AOp.opds])]
  | mv x => simp only [rdA, h x (by simp [AOp.opds])]
  | un _ x => simp only [rdA, h x (by simp [AOp.opds])]
  | conv _ x => simp only [rdA, h x (by simp [AOp.opds])]
  | ld _ x => simp only [rdA, h x (by simp [AOp.opds]), hm]
  | fld _ _ x => simp only [rdA, h x (by simp [AOp.opds])]
  | fad _ x => simp only [rdA, h x (by simp [AOp.opds])]
  | len x => simp only [rdA, h x (by simp [AOp.opds])]
  | lens x => simp only [rdA, h x (by simp [AOp.opds])]
  | ext _ x => simp only [rdA, h x (by simp [AOp.opds])]
  | nilc x => simp only [rdA, h x (by simp [AOp.opds])]
  | mif _ x => simp only [rdA, h x (by simp [AOp.opds])]
  | sln _ x => simp only [rdA, h x (by simp [AOp.opds])]
  | ptn _ x => simp only [rdA, h x (by simp [AOp.opds])]
  | cpz x => simp only [rdA, h x (by simp [AOp.opds])]
  | mmx _ x y => simp only [rdA, h x (by simp [AOp.opds]), h y (by simp [AOp.opds])]
  | _ => rfl
theorem step_congr {s s' : St} {x : AOp} {K : Value → Mem → Prop} (h : ∀ o ∈ x.opds, s.ev o = s'.ev o) (hm : s.m = s'.m) : step P s x K = step P s' x K := by
  have hr := rdA_congr h hm
  cases x with
  | box e x => simp only [step, h x (by simp [AOp.opds]), hm]
  | alc e z => simp only [step, hm]
  | bsl e sz len z ps =>
    have h1 := parts_congr (ps := ps) (fun y hy => h y hy)
    simp only [step, h1, hm]
  | mks e b z l c => simp only [step, h l (by simp [AOp.opds]), h c (by simp [AOp.opds]), hm]
  | st k p x => simp only [step, h p (by simp [AOp.opds]), h x (by simp [AOp.opds]), hm]
  | app e sz b y x => simp only [step, h y (by simp [AOp.opds]), h x (by simp [AOp.opds]), hm]
  | cpy sz y x => simp only [step, h y (by simp [AOp.opds]), h x (by simp [AOp.opds]), hm]
  | apz e b z y x => simp only [step, h y (by simp [AOp.opds]), h x (by simp [AOp.opds]), hm]
  | mkm e => simp only [step, hm]
  | mup mo k x => simp only [step, h mo (by simp [AOp.opds]), h k (by simp [AOp.opds]), h x (by simp [AOp.opds]), hm]
  | lkp ok z mo k => simp only [step, h mo (by simp [AOp.opds]), h k (by simp [AOp.opds]), hm]
  | call f xs =>
    have h1 := map_congr' (xs := xs) (fun y hy => h y (by simp [AOp.opds, hy]))
    simp only [step, h f (by simp [AOp.opds]), h1, hm]
  | rcall f xs =>
    have h1 := map_congr' (xs := xs) (fun y hy => h y (by simp [AOp.opds, hy]))
    simp only [step, h f (by simp [AOp.opds]), h1, hm]
  | clr z x => simp only [step, h x (by simp [AOp.opds]), hm]
  | inv x name xs =>
    have h1 := map_congr' (xs := xs) (fun y hy => h y (by simp [AOp.opds, hy]))
    simp only [step, h x (by simp [AOp.opds]), h1, hm]
  | _ => simp only [step, hr, hm]
def wild : AOp → Bool
  | .st .. | .app .. | .cpy .. | .mup .. | .call .. | .clr .. => true
  | _ => false
theorem rdc_ext {m new : Mem} {id k : Nat} {v : Value} (h : rdc m id k = some v) : rdc (m ++ new) id k = some v := by
  unfold rdc at *
  cases hm : m[id]? with
  | none => rw [hm] at h; cases h
  | some b =>
    rw [hm] at h
    rw [List.getElem?_append_left (List.getElem?_eq_some_iff.1 hm).1, hm]
    exact h
theorem rdn_ext {m new : Mem} {id : Nat} : ∀ (k off : Nat) (xs : List Value), rdn m id off k = some xs → rdn (m ++ new) id off k = some xs := by
  intro k
  induction k with
  | zero => intro off xs h; exact h
  | succ k ih =>
    intro off xs h
    simp only [rdn] at h ⊢
    split at h
    · rename_i x xs' h1 h2
      cases h
      rw [rdc_ext h1, ih _ _ h2]
    · cases h
theorem rdA_ext {s : St} {x : AOp} {v : Value} {new : Mem} (h : rdA s x = some v) : rdA ⟨s.t, s.m ++ new⟩ x = some v := by
  have he : ∀ o : Operand, (⟨s.t, s.m ++ new⟩ : St).ev o = s.ev o := fun o => by cases o <;> rfl
  cases x with
  | ld k x =>
    simp only [rdA, he] at h ⊢
    unfold ldA at *
    split at h
    · split at h
      · exact rdc_ext h
      · split at h
        · rename_i xs hx; cases h; rw [rdn_ext _ _ _ hx]
        · cases h
    · cases h
  | _ =>
    first
      | (rw [rdA_congr (s := ⟨s.t, s.m ++ new⟩) (s' := ⟨s.t, s.m ++ new⟩) (fun _ _ => rfl) rfl]; exact h)
/-- An operation that writes into nothing leaves what was there. -/
theorem step_ext {x : AOp} {K : Value → Mem → Prop} (hx : wild x = false) (h : step P s x K) : step P s x fun v m' => (∃ new, m' = s.m ++ new) ∧ K v m' := by
  cases x with
  | box e x => exact ⟨⟨_, rfl⟩, h⟩
  | alc e z => exact ⟨⟨_, rfl⟩, h⟩
  | bsl e sz len z ps =>
    simp only [step] at h ⊢
    split
    · rename_i cs hcs
      rw [hcs] at h
      exact ⟨⟨_, rfl⟩, h⟩
    · rename_i hcs
      rw [hcs] at h
      exact h
  | mks e b z l c =>
    simp only [step] at h ⊢
    split
    · rename_i h1 h2
      rw [h1, h2] at h
      exact ⟨h.1, ⟨_, rfl⟩, h.2⟩
    · rename_i hno
      split at h
      · rename_i h1 h2; exact absurd h2 (hno _ _ _ _ h1)
      · exact h
  | st k p x => cases hx
  | app e sz b y x => cases hx
  | cpy sz y x => cases hx
  | apz e b z y x =>
    simp only [step] at h ⊢
    split
    · rename_i r hr
      rw [hr] at h
      refine ⟨?_, h⟩
      unfold apzA at hr
      split at hr
      · split at hr
        · cases hr; exact ⟨_, rfl⟩
        · cases hr
      · cases hr
    · rename_i hr; rw [hr] at h; exact h
  | clr z x => cases hx
  | mkm e => exact ⟨⟨_, rfl⟩, h⟩
  | mup mo k x => cases hx
  | lkp ok z mo k =>
    simp only [step] at h ⊢
    split
    · rename_i v hv; rw [hv] at h; exact ⟨⟨[], by simp⟩, h⟩
    · rename_i hv; rw [hv] at h; exact h
  | call f xs => cases hx
  | rcall f xs =>
    simp only [step] at h ⊢
    split
    · rename_i hf
      rw [hf] at h
      exact h.mono fun v new hk => ⟨⟨new, rfl⟩, hk⟩
    · rename_i hno
      split at h
      · rename_i hf; exact absurd hf (hno _ _ _)
      · exact h
  | inv x name xs =>
    simp only [step] at h ⊢
    split
    · rename_i r hr
      rw [hr] at h
      exact h.mono fun v new hk => ⟨⟨new, rfl⟩, hk⟩
    · rename_i hr; rw [hr] at h; exact h
  | _ =>
    simp only [step] at h ⊢
    split
    · rename_i v hv
      rw [hv] at h
      exact ⟨⟨[], by simp⟩, h⟩
    · rename_i hv
      rw [hv] at h
      exact h
def ARow.looks (r : ARow) : List Nat := (r.op.opds.filterMap fun | .tmp t => some t | _ => none) ++ (match r.guard with | some (g, _) => [g] | none => [])
def apartR (x y : ARow) : Bool :=
  (match x.dst with
   | some d => !y.looks.contains d && y.dst != some d
   | none => true) &&
  (match y.dst with
   | some d => !x.looks.contains d
   | none => true)
theorem apartR_spec {x y : ARow} (h : apartR x y = true) : (∀ d, x.dst = some d → d ∉ y.looks) ∧ (∀ d, x.dst = some d → y.dst ≠ some d) ∧ (∀ d, y.dst = some d → d ∉ x.looks) := by
  refine ⟨fun d hd => ?_, fun d hd => ?_, fun d hd => ?_⟩ <;> simp [apartR, hd] at h
  · exact h.1.1
  · exact h.1.2
  · exact h.2
theorem ev_put {s : St} {d : Option Nat} {v : Value} {m' : Mem} {x : Operand} (h : ∀ i, d = some i → x ≠ .tmp i) : (s.put d v m').ev x = s.ev x := by
  cases d with
  | none => cases x <;> rfl
  | some i =>
    cases x with
    | tmp j =>
      have : j ≠ i := fun e => h i rfl (by rw [e])
      simp [St.put, St.ev, upd, this]
    | _ => rfl
theorem look_ev {s : St} {r : ARow} {d : Option Nat} {v : Value} {m' : Mem} (h : ∀ i, d = some i → i ∉ r.looks) : ∀ o ∈ r.op.opds, (s.put d v m').ev o = s.ev o := by
  intro o ho
  refine ev_put fun i hi e => ?_
  subst e
  exact h i hi (by unfold ARow.looks; exact List.mem_append.2 (.inl (List.mem_filterMap.2 ⟨_, ho, rfl⟩)))
theorem look_guard {s : St} {r : ARow} {d : Option Nat} {v : Value} {m' : Mem} (h : ∀ i, d = some i → i ∉ r.looks) : guardOn (s.put d v m') r.guard = guardOn s r.guard := by
  cases hg : r.guard with
  | none => rfl
  | some p =>
    obtain ⟨g, want⟩ := p
    cases d with
    | none => rfl
    | some i =>
      have : g ≠ i := fun e => h i rfl (by unfold ARow.looks; rw [hg, e]; simp)
      simp [guardOn, St.put, upd, this]
/-- What a row that leaves memory alone yields. -/
def rowV (s : St) (r : ARow) : Option Value := match guardOn s r.guard with
  | some true => rdA s r.op
  | some false => some undef
  | none => none
theorem rowV_put {s : St} {r : ARow} {d : Option Nat} {u v : Value} {new : Mem} (h : ∀ i, d = some i → i ∉ r.looks) (hv : rowV s r = some v) : rowV (s.put d u (s.m ++ new)) r = some v := by
  unfold rowV at *
  rw [look_guard h]
  split at hv
  · have e : rdA (s.put d u (s.m ++ new)) r.op = rdA ⟨s.t, s.m ++ new⟩ r.op := rdA_congr (fun o ho => by rw [look_ev h o ho]; cases o <;> rfl) (by cases d <;> rfl)
    simp only [e]
    exact rdA_ext hv
  · exact hv
  · cases hv
theorem stepL {x : AOp} {L L' : Value → Mem → Prop} (hl : ∀ v m', L v m' → L' v m') (h : step P s x L) : step P s x L' := by
  cases x with
  | box e x => exact hl _ _ h
  | alc e z => exact hl _ _ h
  | bsl e sz len z ps => simp only [step] at h ⊢; split <;> simp_all
  | mks e b z l c =>
    simp only [step] at h ⊢
    split
    · rename_i h1 h2; rw [h1, h2] at h; exact ⟨h.1, hl _ _ h.2⟩
    · rename_i hno
      split at h
      · rename_i h1 h2; exact absurd h2 (hno _ _ _ _ h1)
      · exact h
  | st k p x =>
    simp only [step] at h ⊢
    split
    · rename_i id off hp
      rw [hp] at h
      simp only [] at h
      split
      · rename_i hc
        rw [if_pos hc] at h
        split
        · rename_i m' hm; rw [hm] at h; exact hl _ _ h
        · rename_i hm; rw [hm] at h; exact h
      · rename_i hc; rw [if_neg hc] at h; exact h
    · rename_i hno
      split at h
      · rename_i hp; exact absurd hp (hno _ _)
      · exact h
  | app e sz b y x =>
    simp only [step] at h ⊢
    split
    · rename_i xs hx
      rw [hx] at h
      refine ⟨h.1, ?_⟩
      have h2 := h.2
      split
      · rename_i r hr; rw [hr] at h2; exact hl _ _ h2
      · rename_i hr; rw [hr] at h2; exact h2
    · rename_i hx; rw [hx] at h; exact h
  | cpy sz y x =>
    simp only [step] at h ⊢
    split
    · rename_i r hr; rw [hr] at h; exact hl _ _ h
    · rename_i hr; rw [hr] at h; exact h
  | apz e b z y x =>
    simp only [step] at h ⊢
    split
    · rename_i r hr; rw [hr] at h; exact hl _ _ h
    · rename_i hr; rw [hr] at h; exact h
  | mkm e => exact hl _ _ h
  | mup mo k x =>
    simp only [step] at h ⊢
    split
    · rename_i r hr; rw [hr] at h; exact hl _ _ h
    · rename_i hr; rw [hr] at h; exact h
  | lkp ok z mo k =>
    simp only [step] at h ⊢
    split
    · rename_i r hr; rw [hr] at h; exact hl _ _ h
    · rename_i hr; rw [hr] at h; exact h
  | call f xs =>
    simp only [step] at h ⊢
    split
    · rename_i hf; rw [hf] at h; exact h.mono hl
    · rename_i hno
      split at h
      · rename_i hf; exact absurd hf (hno _ _ _)
      · exact h
  | rcall f xs =>
    simp only [step] at h ⊢
    split
    · rename_i hf; rw [hf] at h; exact h.mono fun v new hk => hl _ _ hk
    · rename_i hno
      split at h
      · rename_i hf; exact absurd hf (hno _ _ _)
      · exact h
  | clr z x =>
    simp only [step] at h ⊢
    split
    · rename_i r hr; rw [hr] at h; exact hl _ _ h
    · rename_i hr; rw [hr] at h; exact h
  | inv x name xs =>
    simp only [step] at h ⊢
    split
    · rename_i r hr; rw [hr] at h; exact h.mono fun v new hk => hl _ _ hk
    · rename_i hr; rw [hr] at h; exact h
  | _ =>
    simp only [step] at h ⊢
    split
    · rename_i hv; rw [hv] at h; exact hl _ _ h
    · rename_i hv; rw [hv] at h; exact h
theorem stepRow_mono {r : ARow} {K K' : St → Prop} (hk : ∀ s', K s' → K' s') (h : stepRow P s r K) : stepRow P s r K' := by
  unfold stepRow at *
  split
  · rename_i hg; rw [hg] at h; exact stepL (fun v m' hh => hk _ hh) h
  · rename_i hg; rw [hg] at h; exact hk _ h
  · rename_i hg; rw [hg] at h; exact h
theorem put_comm {s : St} {d e : Option Nat} {v u : Value} {m1 m2 : Mem} (h : ∀ i, d = some i → e ≠ some i) : (s.put d v m1).put e u m2 = (s.put e u m2).put d v m2 := by
  cases d with
  | none => cases e <;> rfl
  | some i =>
    cases e with
    | none => rfl
    | some j =>
      have hne : j ≠ i := fun e => h i rfl (by rw [e])
      simp only [St.put, St.mk.injEq, and_true]
      funext k
      simp only [upd]
      by_cases h1 : k = j
      · subst h1; rw [if_pos rfl, if_neg hne, if_pos rfl]
      · rw [if_neg h1]
        by_cases h2 : k = i
        · rw [if_pos h2, if_pos h2]
        · rw [if_neg h2, if_neg h2, if_neg h1]
/-- A reading row may come before another one. -/
theorem row_swap {ri rj : ARow} {v : Value} {K : St → Prop} (hap : apartR ri rj = true) (hw : wild rj.op = false) (hv : rowV s ri = some v) (h : stepRow P (s.put ri.dst v s.m) rj K) :
    stepRow P s rj (fun s' => rowV s' ri = some v ∧ K (s'.put ri.dst v s'.m)) := by
  obtain ⟨h1, h2, h3⟩ := apartR_spec hap
  have hmm : (s.put ri.dst v s.m).m = s.m := by cases ri.dst <;> rfl
  unfold stepRow at *
  rw [look_guard h1] at h
  split at h
  · rename_i hg
    have hs := (step_congr (P := P) (s := s.put ri.dst v s.m) (s' := s) (x := rj.op) (look_ev h1) hmm) ▸ h
    have hs2 := step_ext hw hs
    have key : ∀ (v' : Value) (m' : Mem), ((∃ new, m' = s.m ++ new) ∧ K ((s.put ri.dst v s.m).put rj.dst v' m')) → (rowV (s.put rj.dst v' m') ri = some v ∧ K ((s.put rj.dst v' m').put ri.dst v (s.put rj.dst v' m').m)) := by
      rintro v' m' ⟨⟨new, rfl⟩, hk⟩
      refine ⟨rowV_put h3 hv, ?_⟩
      have e : (s.put rj.dst v' (s.m ++ new)).m = s.m ++ new := by cases rj.dst <;> rfl
      rw [e, ← put_comm h2]
      exact hk
    exact stepL key hs2
  · rename_i hg
    refine ⟨?_, ?_⟩
    · have := rowV_put (new := []) (u := undef) h3 hv
      simpa using this
    · have e : (s.put rj.dst undef s.m).m = s.m := by cases rj.dst <;> rfl
      rw [e, ← put_comm h2]
      rw [hmm] at h
      exact h
  · exact h.elim
/-- A reading row that reads no memory. -/
def isP : AOp → Bool
  | .ld .. => false
  | x => isR x
theorem rdA_mem {s : St} {x : AOp} (h : isP x = true) (m' : Mem) : rdA ⟨s.t, m'⟩ x = rdA s x := by
  have he : ∀ o : Operand, (⟨s.t, m'⟩ : St).ev o = s.ev o := fun o => by cases o <;> rfl
  have hf : (⟨s.t, m'⟩ : St).ev = s.ev := funext he
  cases x <;> first | (simp [isP, isR] at h; done) | (simp only [rdA, hf]) | rfl
theorem rowV_mem {s : St} {r : ARow} (h : isP r.op = true) (m' : Mem) : rowV ⟨s.t, m'⟩ r = rowV s r := by
  unfold rowV
  rw [show guardOn ⟨s.t, m'⟩ r.guard = guardOn s r.guard from by cases r.guard <;> rfl, rdA_mem h]
/-- Such a row may come before one that writes. -/
theorem row_swapP {ri rj : ARow} {v : Value} {K : St → Prop} (hap : apartR ri rj = true) (hp : isP ri.op = true) (hv : rowV s ri = some v) (h : stepRow P (s.put ri.dst v s.m) rj K) :
    stepRow P s rj (fun s' => rowV s' ri = some v ∧ K (s'.put ri.dst v s'.m)) := by
  obtain ⟨h1, h2, h3⟩ := apartR_spec hap
  have hmm : (s.put ri.dst v s.m).m = s.m := by cases ri.dst <;> rfl
  have put2 : ∀ (u : Value) (m' : Mem), rowV (s.put rj.dst u m') ri = some v := fun u m' => by
    have e := rowV_put (new := []) (u := u) h3 hv
    have e2 : s.put rj.dst u m' = ⟨(s.put rj.dst u (s.m ++ [])).t, m'⟩ := by cases rj.dst <;> rfl
    rw [e2, rowV_mem hp]
    exact e
  unfold stepRow at *
  rw [look_guard h1] at h
  split at h
  · rename_i hg
    have hs := (step_congr (P := P) (s := s.put ri.dst v s.m) (s' := s) (x := rj.op) (look_ev h1) hmm) ▸ h
    refine stepL ?_ hs
    intro v' m' hk
    refine ⟨put2 v' m', ?_⟩
    have e : (s.put rj.dst v' m').m = m' := by cases rj.dst <;> rfl
    rw [e, ← put_comm h2]
    exact hk
  · rename_i hg
    refine ⟨put2 undef s.m, ?_⟩
    have e : (s.put rj.dst undef s.m).m = s.m := by cases rj.dst <;> rfl
    rw [e, ← put_comm h2]
    rw [hmm] at h
    exact h
  · exact h.elim
/-- Whatever order is picked from here on. -/
def anyA (P : Program) (ops : Array Oper) (rows : List ARow) (R : St → Prop) : Nat → Array Bool → St → Prop
  | 0, listed, s => Region.ready .any ops listed = [] ∧ R s
  | fuel + 1, listed, s => (Region.ready .any ops listed = [] → R s) ∧ ∀ i ∈ Region.ready .any ops listed, ∃ r, rows[i]? = some r ∧ stepRow P s r (anyA P ops rows R fuel (listed.setIfInBounds i true))
theorem crows_at {draw : Bool} {ops : Array Oper} : ∀ {os : List Oper} {rows : List ARow}, crows P n draw ops os = some rows → ∀ (i : Nat) (r : ARow), rows[i]? = some r → ∃ o, os[i]? = some o ∧ crow P n draw ops o = some r := by
  intro os
  induction os with
  | nil => intro rows hc i r hr; simp [crows] at hc; subst hc; cases hr
  | cons o os ih =>
    intro rows hc i r hr
    simp only [crows] at hc
    split at hc
    · rename_i r0 rs h1 h2
      cases hc
      cases i with
      | zero => simp at hr; subst hr; exact ⟨o, rfl, h1⟩
      | succ i => obtain ⟨o', ho', hc'⟩ := ih h2 i r (by simpa using hr); exact ⟨o', by simpa using ho', hc'⟩
    · cases hc
theorem anyA_sound {ops : Array Oper} {rows : List ARow} {R : St → Prop} {Q : Exit → Act → World → Prop} (hc : crows P n true ops ops.toList = some rows) :
    ∀ (fuel : Nat) (listed : Array Bool) (s : St) (ρ : Places) (a : Act) (w : World), anyA P ops rows R fuel listed s → SRel lw W0 base ρ n s a w →
    (∀ (s' : St) (ρ' : Places) (a' : Act) (w' : World), R s' → ρ <+: ρ' → SRel lw W0 base ρ' n s' a' w' → Q .normal a' w') → wpAnyIn (fen r0) fu P .any ops Q fuel listed a w := by
  intro fuel
  induction fuel with
  | zero => intro listed s ρ a w h hs hq; exact ⟨h.1, hq s ρ a w h.2 (List.prefix_refl _) hs⟩
  | succ fuel ih =>
    intro listed s ρ a w h hs hq
    refine ⟨fun h0 => hq s ρ a w (h.1 h0) (List.prefix_refl _) hs, fun i hi => ?_⟩
    obtain ⟨r, hr, hst⟩ := h.2 i hi
    obtain ⟨o, ho, hco⟩ := crows_at hc i r hr
    have ho' : ops[i]? = some o := by simpa using ho
    unfold wpOpIn
    simp only [ho']
    have := row_sound (r0 := r0) (fu := fu) (Q := Q) (next := wpAnyIn (fen r0) fu P .any ops Q fuel (listed.setIfInBounds i true)) hs hco hst fun s' ρ' a' w' hk hp hs' => ih _ s' ρ' a' w' hk hs' fun s2 ρ2 a2 w2 h2 hp2 hs2 => hq s2 ρ2 a2 w2 h2 (hp.trans hp2) hs2
    split at this
    · rename_i hw; rw [if_pos hw]; exact this
    · rename_i hw; rw [if_neg hw]; exact this
theorem stepRow_rd {r : ARow} {v : Value} {K : St → Prop} (hR : isR r.op = true) (hv : rowV s r = some v) (hk : K (s.put r.dst v s.m)) : stepRow P s r K := by
  unfold rowV at hv
  unfold stepRow
  split
  · rename_i hg
    rw [hg] at hv
    simp only [] at hv
    cases hx : r.op <;> rw [hx] at hR hv <;> first | (simp [isR] at hR; done) | (simp only [step, hv]; exact hk)
  · rename_i hg; rw [hg] at hv; cases hv; exact hk
  · rename_i hg; rw [hg] at hv; cases hv
theorem rd_stepRow {r : ARow} {K : St → Prop} (hR : isR r.op = true) (h : stepRow P s r K) : ∃ v, rowV s r = some v ∧ K (s.put r.dst v s.m) := by
  unfold stepRow at h
  unfold rowV
  cases hg : guardOn s r.guard with
  | none => rw [hg] at h; exact h.elim
  | some b =>
    rw [hg] at h
    cases b with
    | true => exact step_rd hR h
    | false => exact ⟨undef, rfl, h⟩
theorem anyA_first {ops : Array Oper} {rows : List ARow} {R : St → Prop} {i : Nat} {ri : ARow} {v : Value} {D : List Nat} (hi : rows[i]? = some ri) (hR : isR ri.op = true)
    (hD2 : ∀ j ∈ D, ∀ oj, ops[j]? = some oj → ∃ e ∈ oj.after, Region.binds .any e = true ∧ (e.on = i ∨ e.on ∈ D)) :
    ∀ (fuel : Nat) (listed : Array Bool) (s : St), (∀ j ∈ D, listed.getD j true = false) →
      (∀ j rj oj, rows[j]? = some rj → ops[j]? = some oj → j ≠ i → listed.getD j true = false → j ∉ D → apartR ri rj = true ∧ (wild rj.op = false ∨ isP ri.op = true)) →
      i ∈ Region.ready .any ops listed → rowV s ri = some v →
      anyA P ops rows R fuel (listed.setIfInBounds i true) (s.put ri.dst v s.m) → anyA P ops rows R (fuel + 1) listed s := by
  intro fuel
  induction fuel with
  | zero =>
    intro listed s _ _ hr hy H
    refine ⟨fun h => (by rw [h] at hr; cases hr), fun j hj => ?_⟩
    by_cases hji : j = i
    · subst hji; exact ⟨ri, hi, stepRow_rd hR hy H⟩
    · have := ready_mono hj hji
      rw [H.1] at this
      cases this
  | succ fuel ih =>
    intro listed s hD1 hfree hr hy H
    refine ⟨fun h => (by rw [h] at hr; cases hr), fun j hj => ?_⟩
    by_cases hji : j = i
    · subst hji; exact ⟨ri, hi, stepRow_rd hR hy H⟩
    · obtain ⟨rj, hrj, h1⟩ := H.2 j (ready_mono hj hji)
      obtain ⟨hjun, oj, hoj, hall⟩ := mem_ready.1 hj
      have hunl : ∀ q, listed.getD q true = false → ∀ e ∈ oj.after, Region.binds .any e = true → e.on ≠ q := fun q hq e he hb heq => by
        have h1 := hall e he hb
        rw [heq] at h1
        rcases Nat.lt_or_ge q listed.size with h' | h'
        · simp [h'] at hq h1; rw [hq] at h1; cases h1
        · simp [Array.getElem?_eq_none h'] at h1
      have hnD : j ∉ D := fun hjD => by
        obtain ⟨e, he, hb, h | h⟩ := hD2 j hjD oj hoj
        · exact hunl i (mem_ready.1 hr).1 e he hb h
        · exact hunl e.on (hD1 _ h) e he hb rfl
      obtain ⟨hap, hw⟩ := hfree j rj oj hrj hoj hji hjun hnD
      have h2 := hw.elim (fun hw => row_swap hap hw hy h1) fun hp => row_swapP hap hp hy h1
      have hD1' : ∀ k ∈ D, (listed.setIfInBounds j true).getD k true = false := fun k hk => by
        have hjk : j ≠ k := fun e => hnD (e ▸ hk)
        rw [getD_set_ne true hjk]; exact hD1 k hk
      have hfree' : ∀ k rk ok, rows[k]? = some rk → ops[k]? = some ok → k ≠ i → (listed.setIfInBounds j true).getD k true = false → k ∉ D → apartR ri rk = true ∧ (wild rk.op = false ∨ isP ri.op = true) := fun k rk ok hk hk2 hki hun hno => by
        refine hfree k rk ok hk hk2 hki ?_ hno
        by_cases hjk : j = k
        · subst hjk; exact hjun
        · rw [getD_set_ne true hjk] at hun; exact hun
      refine ⟨rj, hrj, stepRow_mono (fun s' h3 => ih (listed.setIfInBounds j true) s' hD1' hfree' (ready_mono hr (Ne.symm hji)) h3.1 ?_) h2⟩
      rw [Array.setIfInBounds_comm _ _ hji]
      exact h3.2
/-- What cannot come before row i has come. -/
def behindR (ops : Array Oper) (listed : Array Bool) (i : Nat) : List Nat :=
  (List.range ops.size).foldl (fun D j => if !listed.getD j true && (match ops[j]? with
    | some oj => oj.after.any fun e => Region.binds .any e && (e.on == i || D.contains e.on)
    | none => false) then j :: D else D) []
def behindOk (ops : Array Oper) (listed : Array Bool) (i : Nat) (D : List Nat) : Bool :=
  D.all fun j => !listed.getD j true && (match ops[j]? with
    | some oj => oj.after.any fun e => Region.binds .any e && (e.on == i || D.contains e.on)
    | none => false)
def freeD (ops : Array Oper) (rows : List ARow) (listed : Array Bool) (i : Nat) (ri : ARow) (D : List Nat) : Bool :=
  (List.range ops.size).all fun j => j == i || listed.getD j true || D.contains j || (match ops[j]?, rows[j]? with
    | some oj, some rj => apartR ri rj && (!wild rj.op || isP ri.op)
    | _, _ => true)
def freeR (ops : Array Oper) (rows : List ARow) (listed : Array Bool) (i : Nat) (ri : ARow) : Bool :=
  behindOk ops listed i (behindR ops listed i) && freeD ops rows listed i ri (behindR ops listed i)
theorem behindOk_spec {ops : Array Oper} {listed : Array Bool} {i : Nat} {D : List Nat} (h : behindOk ops listed i D = true) :
    (∀ j ∈ D, listed.getD j true = false) ∧ ∀ j ∈ D, ∀ oj, ops[j]? = some oj → ∃ e ∈ oj.after, Region.binds .any e = true ∧ (e.on = i ∨ e.on ∈ D) := by
  unfold behindOk at h
  refine ⟨fun j hj => ?_, fun j hj oj hoj => ?_⟩
  · have := List.all_eq_true.1 h j hj
    simp only [Bool.and_eq_true, Bool.not_eq_true'] at this
    exact this.1
  · have := List.all_eq_true.1 h j hj
    simp only [Bool.and_eq_true, hoj] at this
    obtain ⟨e, he, hb⟩ := Array.any_eq_true'.1 this.2
    simp only [Bool.and_eq_true, Bool.or_eq_true, beq_iff_eq, List.contains_iff_mem] at hb
    exact ⟨e, he, hb.1, hb.2⟩
theorem freeR_spec {ops : Array Oper} {rows : List ARow} {listed : Array Bool} {i : Nat} {ri : ARow} {D : List Nat} (h : freeD ops rows listed i ri D = true) :
    ∀ j rj oj, rows[j]? = some rj → ops[j]? = some oj → j ≠ i → listed.getD j true = false → j ∉ D → apartR ri rj = true ∧ (wild rj.op = false ∨ isP ri.op = true) := by
  intro j rj oj hrj hoj hji hun hno
  have hj : j < ops.size := (Array.getElem?_eq_some_iff.1 hoj).1
  have := List.all_eq_true.1 h j (List.mem_range.2 hj)
  simp only [hoj, hrj, hun, Bool.or_eq_true, beq_iff_eq, Bool.and_eq_true, Bool.not_eq_true', List.contains_iff_mem] at this
  rcases this with ((h1 | h1) | h1) | h1
  · exact absurd h1 hji
  · cases h1
  · exact absurd h1 hno
  · exact h1
/-- An order that stands for all: reading rows as soon as they may come, each other row when it alone may come. -/
def canonOk (ops : Array Oper) (rows : List ARow) : List Nat → Array Bool → Bool
  | [], listed => (Region.ready .any ops listed).isEmpty
  | i :: rest, listed => (Region.ready .any ops listed).contains i && (match rows[i]? with
      | some r => if isR r.op then freeR ops rows listed i r else Region.ready .any ops listed == [i]
      | none => false) && canonOk ops rows rest (listed.setIfInBounds i true)
def pickRows (rows : List ARow) : List Nat → Option (List ARow)
  | [] => some []
  | i :: is => match rows[i]?, pickRows rows is with
    | some r, some rs => some (r :: rs)
    | _, _ => none
theorem canon_any {ops : Array Oper} {rows : List ARow} {R : St → Prop} : ∀ (order : List Nat) (rs : List ARow) (listed : Array Bool) (s : St), canonOk ops rows order listed = true → pickRows rows order = some rs → runL P s rs R →
    anyA P ops rows R order.length listed s := by
  intro order
  induction order with
  | nil => intro rs listed s h hp hr; simp [pickRows] at hp; subst hp; exact ⟨by simpa [canonOk] using h, hr⟩
  | cons i order ih =>
    intro rs listed s h hp hr
    simp only [canonOk, Bool.and_eq_true] at h
    obtain ⟨⟨h1, h2⟩, h3⟩ := h
    simp only [pickRows] at hp
    split at hp
    · rename_i r rs' hri hrs
      cases hp
      simp only [runL] at hr
      rw [hri] at h2
      simp only [] at h2
      have hmem : i ∈ Region.ready .any ops listed := by simpa using h1
      split at h2
      · rename_i hR
        obtain ⟨v, hv, hk⟩ := rd_stepRow hR hr
        unfold freeR at h2
        rw [Bool.and_eq_true] at h2
        obtain ⟨d1, d2⟩ := behindOk_spec h2.1
        exact anyA_first hri hR d2 order.length listed s d1 (freeR_spec h2.2) hmem hv (ih rs' _ _ h3 hrs hk)
      · simp only [beq_iff_eq] at h2
        refine ⟨fun h0 => (by rw [h0] at hmem; cases hmem), fun j hj => ?_⟩
        rw [h2] at hj
        simp only [List.mem_singleton] at hj
        subst hj
        exact ⟨r, hri, stepRow_mono (fun s' hs' => ih rs' _ s' h3 hrs hs') hr⟩
    · cases hp
/-- The order: reading rows first. -/
def canon (ops : Array Oper) (rows : List ARow) : Nat → Array Bool → List Nat
  | 0, _ => []
  | fuel + 1, listed =>
    let rs := Region.ready .any ops listed
    match (match rs.find? (fun i => ((rows[i]?).map fun r => isR r.op).getD false) with
      | some i => some i
      | none => rs[0]?) with
    | some i => i :: canon ops rows fuel (listed.setIfInBounds i true)
    | none => []
inductive ACode where
  | skip
  | reg (rows : List ARow)
  | seq (x y : ACode)
  | cond (c : Operand) (x y : ACode)
  | block (id : Nat) (c : ACode)
  | loop (c : ACode)
  | exit (id : Nat)
  | ret
  | bad
  | both (x y : ACode)
  | range (g : Operand) (ps : List Nat) (x y : ACode)
  | goto (l : Nat)
  | label (l : Nat)
  | scope (c : ACode)
def treeL (f : Nat → Option ACode) : List Nat → Option ACode
  | [] => none
  | [i] => f i
  | i :: is => match f i, treeL f is with
    | some a, some b => some (.both a b)
    | _, _ => none
/-- A region whose orders differ: reading rows as soon as they may come, then every row that may come next, one way each. -/
def treeC (ops : Array Oper) (rows : List ARow) : Nat → Nat → Array Bool → Option ACode
  | 0, _, listed => if (Region.ready .any ops listed).isEmpty then some .skip else none
  | fuel + 1, br, listed =>
    if (Region.ready .any ops listed).isEmpty then some .skip else
    match (Region.ready .any ops listed).find? (fun i => match rows[i]? with
      | some r => isR r.op && freeR ops rows listed i r
      | none => false) with
    | some i => match rows[i]?, treeC ops rows fuel br (listed.setIfInBounds i true) with
      | some r, some c => some (.seq (.reg [r]) c)
      | _, _ => none
    | none => if (Region.ready .any ops listed).length == 1 then
        treeL (fun i => match rows[i]?, treeC ops rows fuel br (listed.setIfInBounds i true) with
          | some r, some c => some (.seq (.reg [r]) c)
          | _, _ => none) (Region.ready .any ops listed)
      else if (Region.ready .any ops listed).length ≤ 4 && 0 < br then
        treeL (fun i => match rows[i]?, treeC ops rows fuel (br - 1) (listed.setIfInBounds i true) with
          | some r, some c => some (.seq (.reg [r]) c)
          | _, _ => none) (Region.ready .any ops listed)
      else none
/-- A region's rows, in an order that stands for all. -/
def regC (P : Program) (n : Nat) (ops : Array Oper) (draw : Bool) : Option ACode :=
  if draw then (match crows P n true ops ops.toList with
      | some rows => let order := canon ops rows ops.size (Array.replicate ops.size false)
        if order.length == ops.size && canonOk ops rows order (Array.replicate ops.size false) then (pickRows rows order).map .reg else treeC ops rows ops.size 6 (Array.replicate ops.size false)
      | none => none)
    else (crows P n false ops ops.toList).map .reg
def ccode (P : Program) (n : Nat) : Code → Option ACode
  | .skip => some .skip
  | .region _ ops draw => some ((regC P n ops draw).getD .bad)
  | .seq x y => match ccode P n x, ccode P n y with
    | some a, some b => some (.seq a b)
    | _, _ => none
  | .cond c x y => if opdOk n c then (match ccode P n x, ccode P n y with
    | some a, some b => some (.cond c a b)
    | _, _ => none) else none
  | .block id x => (ccode P n x).map (.block id)
  | .loop x => (ccode P n x).map .loop
  | .rangeFunc g ps x y => if opdOk n g && ps.toList.all (fun i => decide (i < n)) then (match ccode P n x, ccode P n y with
    | some a, some b => some (.range g ps.toList a b)
    | _, _ => none) else none
  | .exit id => some (.exit id)
  | .label l => some (.label l)
  | .goto l => some (.goto l)
  | .scope x => (ccode P n x).map .scope
  | .ret => some .ret
  | _ => some .bad
/-- The world from which is counted moves on. -/
def Reb (base : Nat) (W0 W1 : World) : Prop := Below base W0 W1 ∧ Oth W0 W1
theorem Reb.refl (base : Nat) (W : World) : Reb base W W := ⟨Below.refl _ _, Oth.refl _⟩
theorem Reb.trans {A B C : World} (h : Reb base A B) (h' : Reb base B C) : Reb base A C := ⟨h.1.trans h'.1, h.2.trans h'.2⟩
theorem MRel.reb (h : MRel W0 base ρ m w) : Reb base W0 w := ⟨h.below, h.oth⟩
theorem MRel.from {W1 : World} (h : MRel W1 base ρ m w) (hr : Reb base W0 W1) : MRel W0 base ρ m w := ⟨h.len, hr.1.trans h.below, h.le, h.ro, h.own, h.apart, h.maps, hr.2.trans h.oth, h.tab.of hr.1⟩
theorem MRel.now (h : MRel W0 base ρ m w) : MRel w base ρ m w := ⟨h.len, Below.refl _ _, h.le, h.ro, h.own, h.apart, h.maps, Oth.refl _, h.tab.at h.below (Nat.le_refl _)⟩
/-- What holds where a piece of code ends. -/
def Ends (lw : Nat) (W0 : World) (base : Nat) (ρ : Places) (n : Nat) (Q : Exit → St → Prop) (e : Exit) (a' : Act) (w' : World) : Prop :=
  ∃ s' ρ' W1, Q e s' ∧ ρ <+: ρ' ∧ Reb base W0 W1 ∧ SRel lw W1 base ρ' n s' a' w'
/-- The record of the round in which the code runs, if it does. -/
def InRound (r0 : Option Nat) (W0 : World) : Prop := ∀ l, r0 = some l → ∃ r, W0.heap[l]? = some (.loop r)
theorem InRound.on {r0 : Option Nat} {W1 : World} (h : InRound r0 W0) (hr : Reb base W0 W1) : InRound r0 W1 := fun l hl => let ⟨r, hh⟩ := h l hl; ⟨r, hr.2 _ _ hh rfl⟩
/-- What a piece of code does to what is known. -/
def AWP (P : Program) (n : Nat) (C : Code) (Q : Exit → St → Prop) (s : St) : Prop :=
  ∀ (r0 : Option Nat) (fu : Nat) (lw : Nat) (W0 : World) (base : Nat) (ρ : Places) (a : Act) (w : World), InRound r0 W0 → SRel lw W0 base ρ n s a w → C.wpIn (fen r0) fu P (Ends lw W0 base ρ n Q) a w
theorem Ends.of {Q : Exit → St → Prop} {e : Exit} {s' : St} {ρ' : Places} {a' : Act} {w' : World} (hk : Q e s') (hp : ρ <+: ρ') (hs : SRel lw W0 base ρ' n s' a' w') : Ends lw W0 base ρ n Q e a' w' :=
  ⟨s', ρ', W0, hk, hp, Reb.refl _ _, hs⟩
theorem Ends.more {Q : Exit → St → Prop} {e : Exit} {ρ' : Places} {W1 : World} {a' : Act} {w' : World} (hp : ρ <+: ρ') (hr : Reb base W0 W1) (h : Ends lw W1 base ρ' n Q e a' w') : Ends lw W0 base ρ n Q e a' w' :=
  let ⟨s2, ρ2, W2, hk, hp2, hr2, hs⟩ := h; ⟨s2, ρ2, W2, hk, hp.trans hp2, hr.trans hr2, hs⟩
/-- A loop. -/
def LoopA (P : Program) (n : Nat) (c : ACode) (Q : Exit → St → Prop) (s : St) : Prop := ∀ C, ccode P n C = some c → AWP P n (.loop C) Q s
/-- A scope. -/
def ScopeA (P : Program) (n : Nat) (c : ACode) (Q : Exit → St → Prop) (s : St) : Prop := ∀ C, ccode P n C = some c → AWP P n (.scope C) Q s
/-- A range over a function. -/
def RangeA (P : Program) (n : Nat) (g : Operand) (ps : List Nat) (c d : ACode) (Q : Exit → St → Prop) (s : St) : Prop :=
  ∀ (X Y : Code) (qs : Array Nat), ccode P n X = some c → ccode P n Y = some d → opdOk n g = true → qs.toList = ps → (∀ i ∈ ps, i < n) → AWP P n (.rangeFunc g qs X Y) Q s
def seqQ (K : St → Prop) (Q : Exit → St → Prop) : Exit → St → Prop
  | .normal, s => K s
  | e, s => Q e s
def blockQ (id : Nat) (Q : Exit → St → Prop) : Exit → St → Prop
  | .exit i, s => if i = id then Q .normal s else Q (.exit i) s
  | e, s => Q e s
def runC (P : Program) (n : Nat) : ACode → (Exit → St → Prop) → St → Prop
  | .skip, Q, s => Q .normal s
  | .reg rows, Q, s => runL P s rows (Q .normal)
  | .seq x y, Q, s => runC P n x (seqQ (runC P n y Q) Q) s
  | .cond c x y, Q, s => match s.ev c with
    | .bool b => if b = true then runC P n x Q s else runC P n y Q s
    | _ => False
  | .block id c, Q, s => runC P n c (blockQ id Q) s
  | .loop c, Q, s => LoopA P n c Q s
  | .scope c, Q, s => ScopeA P n c Q s
  | .goto l, Q, s => Q (.goto l) s
  | .label _, Q, s => Q .normal s
  | .range g ps c d, Q, s => RangeA P n g ps c d Q s
  | .exit id, Q, s => Q (.exit id) s
  | .ret, Q, s => Q .ret s
  | .bad, _, _ => False
  | .both x y, Q, s => runC P n x Q s ∧ runC P n y Q s
theorem AWP.mono {C : Code} {Q Q' : Exit → St → Prop} (h : AWP P n C Q s) (hq : ∀ e s', Q e s' → Q' e s') : AWP P n C Q' s :=
  fun r0 fu lw W0 base ρ a w hr0 hs => Code.wpIn_mono (fun e a' w' ⟨s', ρ', W1, h1, h2⟩ => ⟨s', ρ', W1, hq _ _ h1, h2⟩) (h r0 fu lw W0 base ρ a w hr0 hs)
theorem treeL_spec {P : Program} {f : Nat → Option ACode} {Q : Exit → St → Prop} : ∀ (is : List Nat) (c : ACode), treeL f is = some c → runC P n c Q s → ∀ i ∈ is, ∃ c', f i = some c' ∧ runC P n c' Q s := by
  intro is
  induction is with
  | nil => intro c h; cases h
  | cons i is ih =>
    intro c h hr j hj
    cases is with
    | nil =>
      rw [List.mem_singleton] at hj
      subst hj
      exact ⟨c, h, hr⟩
    | cons i2 is2 =>
      simp only [treeL] at h
      split at h
      · rename_i a b h1 h2
        cases h
        rcases List.mem_cons.1 hj with rfl | hj
        · exact ⟨a, h1, hr.1⟩
        · exact ih b h2 hr.2 j hj
      · cases h
theorem tree_any {P : Program} {ops : Array Oper} {rows : List ARow} {Q : Exit → St → Prop} : ∀ (fuel br : Nat) (listed : Array Bool) (c : ACode) (s : St), treeC ops rows fuel br listed = some c → runC P n c Q s →
    anyA P ops rows (Q .normal) fuel listed s := by
  intro fuel
  induction fuel with
  | zero =>
    intro br listed c s h hr
    simp only [treeC] at h
    split at h
    · rename_i h0; cases h; exact ⟨by simpa using h0, hr⟩
    · cases h
  | succ fuel ih =>
    intro br listed c s h hr
    simp only [treeC] at h
    have one : ∀ (br' : Nat) (i : Nat) (c' : ACode), (match rows[i]?, treeC ops rows fuel br' (listed.setIfInBounds i true) with
          | some r, some c => some (ACode.seq (.reg [r]) c)
          | _, _ => none) = some c' → runC P n c' Q s → ∃ r, rows[i]? = some r ∧ stepRow P s r (anyA P ops rows (Q .normal) fuel (listed.setIfInBounds i true)) := by
      intro br' i c' h hr
      split at h
      · rename_i r c2 h1 h2
        cases h
        exact ⟨r, h1, stepRow_mono (fun s' hs' => ih br' _ c2 s' h2 hs') hr⟩
      · cases h
    split at h
    · rename_i h0
      cases h
      have h0' : Region.ready .any ops listed = [] := by simpa using h0
      exact ⟨fun _ => hr, fun i hi => by rw [h0'] at hi; cases hi⟩
    · rename_i h0
      have hne : Region.ready .any ops listed ≠ [] := by simpa using h0
      split at h
      · rename_i i hf
        have hmem := List.mem_of_find?_eq_some hf
        have hp := List.find?_some hf
        split at h
        · rename_i r c2 h1 h2
          cases h
          simp only [h1, Bool.and_eq_true] at hp
          obtain ⟨hR, hfr⟩ := hp
          obtain ⟨v, hv, hk⟩ := rd_stepRow hR (show stepRow P s r (fun s' => runC P n c2 Q s') from hr)
          unfold freeR at hfr
          rw [Bool.and_eq_true] at hfr
          obtain ⟨d1, d2⟩ := behindOk_spec hfr.1
          exact anyA_first h1 hR d2 fuel listed s d1 (freeR_spec hfr.2) hmem hv (ih br _ c2 _ h2 hk)
        · cases h
      · split at h
        · refine ⟨fun he => absurd he hne, fun i hi => ?_⟩
          obtain ⟨c', h1, h2⟩ := treeL_spec _ c h hr i hi
          exact one br i c' h1 h2
        · split at h
          · refine ⟨fun he => absurd he hne, fun i hi => ?_⟩
            obtain ⟨c', h1, h2⟩ := treeL_spec _ c h hr i hi
            exact one (br - 1) i c' h1 h2
          · cases h
theorem run_sound (hm : P.follows .mixedOrders = true) : ∀ (C : Code) (c : ACode) (Q : Exit → St → Prop) (s : St), ccode P n C = some c → runC P n c Q s → AWP P n C Q s := by
  intro C
  induction C with
  | skip => intro c Q s hc hr r0 fu lw W0 base ρ a w hr0 hs; simp [ccode] at hc; subst hc; exact wpIn_skip (.of hr (List.prefix_refl _) hs)
  | region id ops draw =>
    intro c Q s hc hr r0 fu lw W0 base ρ a w hr0 hs
    simp only [ccode] at hc
    cases hreg : regC P n ops draw with
    | none => rw [hreg] at hc; cases hc; simp [runC] at hr
    | some c' =>
    rw [hreg] at hc
    cases hc
    have hc := hreg
    unfold regC at hc
    dsimp only at hc
    split at hc
    · rename_i hd
      subst hd
      split at hc
      · rename_i rows hrows
        split at hc
        · rename_i hcond
          simp only [Bool.and_eq_true, beq_iff_eq] at hcond
          obtain ⟨hlen, hok⟩ := hcond
          cases hp : pickRows rows (canon ops rows ops.size (Array.replicate ops.size false)) with
          | none => rw [hp] at hc; cases hc
          | some rs =>
            rw [hp] at hc
            cases hc
            simp only [Option.getD_some, runC] at hr
            have hany := canon_any (P := P) _ rs _ s hok hp hr
            rw [hlen] at hany
            refine wpIn_region_any hm (anyA_sound hrows ops.size _ s ρ a _ hany ⟨hs.mem.drew, hs.defers, hs.size, hs.tmps⟩ fun s' ρ' a' w' hk hp hs' => .of hk hp hs')
        · have hany := tree_any ops.size 6 _ c' s hc (by simpa using hr)
          refine wpIn_region_any hm (anyA_sound hrows ops.size _ s ρ a _ hany ⟨hs.mem.drew, hs.defers, hs.size, hs.tmps⟩ fun s' ρ' a' w' hk hp hs' => .of hk hp hs')
      · cases hc
    · rename_i hd
      have hd' : draw = false := by simpa using hd
      subst hd'
      cases hrows : crows P n false ops ops.toList with
      | none => rw [hrows] at hc; cases hc
      | some rows =>
        rw [hrows] at hc
        cases hc
        simp only [Option.getD_some, runC] at hr
        exact wpIn_region_list (runL_sound ops.toList rows s ρ a w hrows hr hs fun s' ρ' a' w' hk hp hs' => .of hk hp hs')
  | seq x y ihx ihy =>
    intro c Q s hc hr r0 fu lw W0 base ρ a w hr0 hs
    simp only [ccode] at hc
    split at hc
    · rename_i cx cy h1 h2
      cases hc
      simp only [runC] at hr
      refine wpIn_seq (Code.wpIn_mono ?_ (ihx cx _ s h1 hr r0 fu lw W0 base ρ a w hr0 hs))
      rintro e a' w' ⟨s', ρ', W1, hk, hp, hrb, hs'⟩
      cases e with
      | normal => exact Code.wpIn_mono (fun e2 a2 w2 h2 => Ends.more hp hrb h2) (ihy cy Q s' h2 hk r0 fu lw W1 base ρ' a' w' (hr0.on hrb) hs')
      | _ => exact ⟨s', ρ', W1, hk, hp, hrb, hs'⟩
    · cases hc
  | cond o x y ihx ihy =>
    intro c Q s hc hr r0 fu lw W0 base ρ a w hr0 hs
    simp only [ccode] at hc
    split at hc
    · rename_i hok
      split at hc
      · rename_i cx cy h1 h2
        cases hc
        simp only [runC] at hr
        split at hr
        · rename_i b hb
          have hv := hs.ev hok
          rw [hb] at hv
          refine wpIn_cond hv.bool_inv ?_
          cases b with
          | true => exact ihx cx Q s h1 (by simpa using hr) r0 fu lw W0 base ρ a w hr0 hs
          | false => exact ihy cy Q s h2 (by simpa using hr) r0 fu lw W0 base ρ a w hr0 hs
        · exact hr.elim
      · cases hc
    · cases hc
  | block id x ih =>
    intro c Q s hc hr r0 fu lw W0 base ρ a w hr0 hs
    simp only [ccode] at hc
    cases hx : ccode P n x with
    | none => rw [hx] at hc; cases hc
    | some cx =>
      rw [hx] at hc
      cases hc
      simp only [runC] at hr
      refine wpIn_block (Code.wpIn_mono ?_ (ih cx _ s hx hr r0 fu lw W0 base ρ a w hr0 hs))
      rintro e a' w' ⟨s', ρ', W1, hk, hp, hrb, hs'⟩
      cases e with
      | exit i =>
        simp only [blockQ] at hk
        simp only [Exit.inBlock]
        split
        · rename_i hi; rw [if_pos hi] at hk; exact ⟨s', ρ', W1, hk, hp, hrb, hs'⟩
        · rename_i hi; rw [if_neg hi] at hk; exact ⟨s', ρ', W1, hk, hp, hrb, hs'⟩
      | _ => exact ⟨s', ρ', W1, hk, hp, hrb, hs'⟩
  | loop x ih =>
    intro c Q s hc hr
    simp only [ccode] at hc
    cases hx : ccode P n x with
    | none => rw [hx] at hc; cases hc
    | some cx =>
      rw [hx] at hc
      cases hc
      simp only [runC] at hr
      exact hr x hx
  | rangeFunc g ps x y ihx ihy =>
    intro c Q s hc hr
    simp only [ccode] at hc
    split at hc
    · rename_i hok
      split at hc
      · rename_i cx cy h1 h2
        cases hc
        simp only [runC] at hr
        rw [Bool.and_eq_true] at hok
        exact hr x y ps h1 h2 hok.1 rfl fun i hi => by simpa using List.all_eq_true.1 hok.2 i hi
      · cases hc
    · cases hc
  | scope x ih =>
    intro c Q s hc hr
    simp only [ccode] at hc
    cases hx : ccode P n x with
    | none => rw [hx] at hc; cases hc
    | some cx =>
      rw [hx] at hc
      cases hc
      simp only [runC] at hr
      exact hr x hx
  | goto l => intro c Q s hc hr r0 fu lw W0 base ρ a w hr0 hs; simp [ccode] at hc; subst hc; exact wpIn_goto (.of hr (List.prefix_refl _) hs)
  | exit id => intro c Q s hc hr r0 fu lw W0 base ρ a w hr0 hs; simp [ccode] at hc; subst hc; exact wpIn_exit (.of hr (List.prefix_refl _) hs)
  | label l => intro c Q s hc hr r0 fu lw W0 base ρ a w hr0 hs; simp [ccode] at hc; subst hc; exact wpIn_label (.of hr (List.prefix_refl _) hs)
  | ret => intro c Q s hc hr r0 fu lw W0 base ρ a w hr0 hs; simp [ccode] at hc; subst hc; exact wpIn_ret (.of hr (List.prefix_refl _) hs)
  | _ => intro c Q s hc hr; simp [ccode] at hc; subst hc; simp [runC] at hr
/-- A loop: what holds at every round's head, and what goes down. -/
theorem loop_intro (hm : P.follows .mixedOrders = true) {c : ACode} {Q : Exit → St → Prop} (I : St → Prop) (μ : St → Nat) (h0 : I s)
    (round : ∀ s, I s → runC P n c (seqQ (fun s' => I s' ∧ μ s' < μ s) Q) s) : LoopA P n c Q s := by
  intro C hC r0 fu lw W0 base ρ a w hr0 hs
  let J : Nat → Act → World → Prop := fun k a w => ∃ s ρ' W1, μ s = k ∧ I s ∧ ρ <+: ρ' ∧ Reb base W0 W1 ∧ SRel lw W1 base ρ' n s a w
  refine wpIn_loop (fun a w => ∃ k, J k a w) (fun a w => leastOf fun k => J k a w) ⟨μ s, s, ρ, W0, rfl, h0, List.prefix_refl _, Reb.refl _ _, hs⟩ ?_
  intro a1 w1 hI1
  obtain ⟨s1, ρ1, W1, hμ, hI, hp, hrb, hs1⟩ := (leastOf_spec hI1).1
  refine Code.wpIn_mono ?_ (run_sound hm C c _ s1 hC (round s1 hI) r0 fu lw W1 base ρ1 a1 w1 (hr0.on hrb) hs1)
  rintro e a2 w2 ⟨s2, ρ2, W2, hk, hp2, hrb2, hs2⟩
  cases e with
  | normal =>
    have hj : J (μ s2) a2 w2 := ⟨s2, ρ2, W2, rfl, hk.1, hp.trans hp2, hrb.trans hrb2, hs2⟩
    refine ⟨⟨_, hj⟩, ?_⟩
    have h1 := (leastOf_spec (p := fun k => J k a2 w2) ⟨_, hj⟩).2 _ hj
    have h2 := hk.2
    rw [hμ] at h2
    exact Nat.lt_of_le_of_lt h1 h2
  | _ => exact ⟨s2, ρ2, W2, hk, hp.trans hp2, hrb.trans hrb2, hs2⟩
/-! Scopes and jumps. -/
/-- What stands behind a label. -/
def findA : ACode → Nat → Option ACode
  | .seq a b, l => match findA a l with
    | some r => some (.seq r b)
    | none => findA b l
  | .label l', l => if l' == l then some .skip else none
  | _, _ => none
theorem treeL_find {f : Nat → Option ACode} {l : Nat} (hf : ∀ i c, f i = some c → findA c l = none) : ∀ (is : List Nat) (c : ACode), treeL f is = some c → findA c l = none := by
  intro is
  induction is with
  | nil => intro c h; cases h
  | cons i is ih =>
    intro c h
    cases is with
    | nil => exact hf i c h
    | cons j is =>
      simp only [treeL] at h
      split at h
      · cases h; rfl
      · cases h
theorem tree_find {ops : Array Oper} {rows : List ARow} {l : Nat} : ∀ (fuel br : Nat) (listed : Array Bool) (c : ACode), treeC ops rows fuel br listed = some c → findA c l = none := by
  intro fuel
  induction fuel with
  | zero =>
    intro br listed c h
    simp only [treeC] at h
    split at h
    · cases h; rfl
    · cases h
  | succ fuel ih =>
    intro br listed c h
    have one : ∀ (br' i : Nat) (c : ACode), (match rows[i]?, treeC ops rows fuel br' (listed.setIfInBounds i true) with
          | some r, some c => some (ACode.seq (.reg [r]) c)
          | _, _ => none) = some c → findA c l = none := by
      intro br' i c h
      split at h
      · rename_i r c2 h1 h2
        cases h
        simp only [findA]
        exact ih br' _ c2 h2
      · cases h
    simp only [treeC] at h
    split at h
    · cases h; rfl
    · split at h
      · rename_i i hf
        exact one br i c h
      · split at h
        · exact treeL_find (fun i c h => one br i c h) _ c h
        · split at h
          · exact treeL_find (fun i c h => one (br - 1) i c h) _ c h
          · cases h
theorem find_ok : ∀ (C : Code) (c : ACode) (l : Nat), ccode P n C = some c → (findLabel C l = none → findA c l = none) ∧ ∀ rest, findLabel C l = some rest → ∃ r, findA c l = some r ∧ ccode P n rest = some r := by
  intro C
  induction C with
  | seq x y ihx ihy =>
    intro c l hc
    simp only [ccode] at hc
    split at hc
    · rename_i cx cy h1 h2
      cases hc
      obtain ⟨x1, x2⟩ := ihx cx l h1
      obtain ⟨y1, y2⟩ := ihy cy l h2
      simp only [findLabel, findA]
      cases hx : findLabel x l with
      | none => rw [x1 hx]; exact ⟨y1, y2⟩
      | some rx =>
        obtain ⟨r, h3, h4⟩ := x2 rx hx
        rw [h3]
        refine ⟨fun h => by simp at h, fun rest h => ?_⟩
        cases h
        exact ⟨_, rfl, by simp only [ccode, h4, h2]⟩
    · cases hc
  | label l' =>
    intro c l hc
    simp [ccode] at hc
    subst hc
    simp only [findLabel, findA]
    split
    · exact ⟨fun h => by simp at h, fun rest h => by cases h; exact ⟨_, rfl, by simp [ccode]⟩⟩
    · exact ⟨fun _ => rfl, fun rest h => by simp at h⟩
  | region id ops draw =>
    intro c l hc
    refine ⟨fun _ => ?_, fun rest h => by simp [findLabel] at h⟩
    simp only [ccode] at hc
    cases hreg : regC P n ops draw with
    | none => rw [hreg] at hc; cases hc; rfl
    | some c' =>
      rw [hreg] at hc
      cases hc
      unfold regC at hreg
      dsimp only at hreg
      split at hreg
      · split at hreg
        · split at hreg
          · rename_i rows _ _
            cases hp : pickRows rows (canon ops rows ops.size (Array.replicate ops.size false)) with
            | none => rw [hp] at hreg; cases hreg
            | some rs => rw [hp] at hreg; cases hreg; rfl
          · exact tree_find _ _ _ _ hreg
        · cases hreg
      · cases hrows : crows P n false ops ops.toList with
        | none => rw [hrows] at hreg; cases hreg
        | some rows => rw [hrows] at hreg; cases hreg; rfl
  | skip => intro c l hc; refine ⟨fun _ => ?_, fun rest h => by simp [findLabel] at h⟩; simp [ccode] at hc; subst hc; rfl
  | cond o x y => 
    intro c l hc
    refine ⟨fun _ => ?_, fun rest h => by simp [findLabel] at h⟩
    simp only [ccode] at hc
    split at hc
    · split at hc
      · cases hc; rfl
      · cases hc
    · cases hc
  | rangeFunc g ps x y =>
    intro c l hc
    refine ⟨fun _ => ?_, fun rest h => by simp [findLabel] at h⟩
    simp only [ccode] at hc
    split at hc
    · split at hc
      · cases hc; rfl
      · cases hc
    · cases hc
  | block id x =>
    intro c l hc
    refine ⟨fun _ => ?_, fun rest h => by simp [findLabel] at h⟩
    simp only [ccode] at hc
    cases hx : ccode P n x with
    | none => rw [hx] at hc; cases hc
    | some cx => rw [hx] at hc; cases hc; rfl
  | loop x =>
    intro c l hc
    refine ⟨fun _ => ?_, fun rest h => by simp [findLabel] at h⟩
    simp only [ccode] at hc
    cases hx : ccode P n x with
    | none => rw [hx] at hc; cases hc
    | some cx => rw [hx] at hc; cases hc; rfl
  | scope x =>
    intro c l hc
    refine ⟨fun _ => ?_, fun rest h => by simp [findLabel] at h⟩
    simp only [ccode] at hc
    cases hx : ccode P n x with
    | none => rw [hx] at hc; cases hc
    | some cx => rw [hx] at hc; cases hc; rfl
  | _ =>
    intro c l hc
    refine ⟨fun _ => ?_, fun rest h => by simp [findLabel] at h⟩
    simp [ccode] at hc
    subst hc
    rfl
/-- A jump to a label of the scope goes on behind the label: at most f jumps. -/
def jumpQ (P : Program) (n : Nat) (c : ACode) (Q : Exit → St → Prop) : Nat → Exit → St → Prop
  | 0, .goto l, s => match findA c l with
    | some _ => False
    | none => Q (.goto l) s
  | f + 1, .goto l, s => match findA c l with
    | some r => runC P n r (jumpQ P n c Q f) s
    | none => Q (.goto l) s
  | _, e, s => Q e s
/-- The same over the machine. -/
def jumpW (F : Fence) (fu : Nat) (P : Program) (C : Code) (Q : Exit → Act → World → Prop) : Nat → Exit → Act → World → Prop
  | 0, .goto l, a, w => match findLabel C l with
    | some _ => False
    | none => Q (.goto l) a w
  | f + 1, .goto l, a, w => match findLabel C l with
    | some rest => rest.wpIn F fu P (jumpW F fu P C Q f) a w
    | none => Q (.goto l) a w
  | _, e, a, w => Q e a w
theorem stepR_scopeB {b : Frame} {cs : List Frame} {k : List Item} {C : Code} : Go.step P (lone (b.atR a (.code (.scope C) :: k)) cs w) = .next (lone (b.atR a (.code C :: .inScope C :: k)) cs w) :=
  step_lone_go (by simp [stepG, stepG.exec, Frame.atR])
theorem stepR_inScopeB {b : Frame} {cs : List Frame} {k : List Item} {C : Code} : Go.step P (lone (b.atR a (.inScope C :: k)) cs w) = .next (lone (b.atR a k) cs w) :=
  step_lone_go (by simp [stepG, stepG.exec, Frame.atR])
theorem wpIn_scopeB {F : Fence} {fu : Nat} {C : Code} {Q : Exit → Act → World → Prop} (f : Nat) (h : C.wpIn F fu P (jumpW F fu P C Q f) a w) : (Code.scope C).wpIn F fu P Q a w := by
  intro b k cs hro hb hr
  have key : ∀ (f : Nat) (X : Code) (a : Act) (w : World), X.wpIn F fu P (jumpW F fu P C Q f) a w →
      ∃ e a' w', Q e a' w' ∧ ArrivesIn (Machine.fenced P F) P (lone (b.atR a (.code X :: .inScope C :: k)) cs w) b k cs e a' w' := by
    intro f
    induction f with
    | zero =>
      intro X a w hX
      obtain ⟨e, a₁, w₁, hq, harr⟩ := hX b (.inScope C :: k) cs hro hb hr
      cases e with
      | normal => exact ⟨.normal, a₁, w₁, hq, StepsIn.trans harr (.one (fenced_calm hb hr rfl) stepR_inScopeB)⟩
      | exit id => exact ⟨.exit id, a₁, w₁, hq, fun k' hk => harr.1 k' (by simp [exitTo, hk]), fun hr' hk => harr.2 hr' (by simp [exitTo, hk])⟩
      | goto l =>
        simp only [jumpW] at hq
        cases hl : findLabel C l with
        | some rest => rw [hl] at hq; exact hq.elim
        | none =>
          rw [hl] at hq
          exact ⟨.goto l, a₁, w₁, hq, fun k' hk => harr.1 k' (by simp [gotoIn, hl, hk]), fun hr' hk => harr.2 hr' (by simp [gotoIn, hl, hk])⟩
      | ret => exact ⟨_, a₁, w₁, hq, harr⟩
      | panic ch => exact ⟨_, a₁, w₁, hq, harr⟩
      | outgrown => exact ⟨_, a₁, w₁, hq, harr⟩
    | succ f ih =>
      intro X a w hX
      obtain ⟨e, a₁, w₁, hq, harr⟩ := hX b (.inScope C :: k) cs hro hb hr
      cases e with
      | normal => exact ⟨.normal, a₁, w₁, hq, StepsIn.trans harr (.one (fenced_calm hb hr rfl) stepR_inScopeB)⟩
      | exit id => exact ⟨.exit id, a₁, w₁, hq, fun k' hk => harr.1 k' (by simp [exitTo, hk]), fun hr' hk => harr.2 hr' (by simp [exitTo, hk])⟩
      | goto l =>
        simp only [jumpW] at hq
        cases hl : findLabel C l with
        | some rest =>
          rw [hl] at hq
          obtain ⟨e₂, a₂, w₂, hq₂, harr₂⟩ := ih rest a₁ w₁ hq
          exact ⟨e₂, a₂, w₂, hq₂, .of_steps (harr.1 _ (by simp [gotoIn, hl])) harr₂⟩
        | none =>
          rw [hl] at hq
          exact ⟨.goto l, a₁, w₁, hq, fun k' hk => harr.1 k' (by simp [gotoIn, hl, hk]), fun hr' hk => harr.2 hr' (by simp [gotoIn, hl, hk])⟩
      | ret => exact ⟨_, a₁, w₁, hq, harr⟩
      | panic ch => exact ⟨_, a₁, w₁, hq, harr⟩
      | outgrown => exact ⟨_, a₁, w₁, hq, harr⟩
  obtain ⟨e, a', w', hq, harr⟩ := key f C a w h
  exact ⟨e, a', w', hq, .of_steps (.one (fenced_calm hb hr rfl) stepR_scopeB) harr⟩
theorem scope_intro (hm : P.follows .mixedOrders = true) {c : ACode} {Q : Exit → St → Prop} (f : Nat) (h : runC P n c (jumpQ P n c Q f) s) : ScopeA P n c Q s := by
  intro C hC r0 fu lw W0 base ρ a w hr0 hs
  refine wpIn_scopeB f ?_
  have key : ∀ (f : Nat) (W0 : World) (ρ : Places), InRound r0 W0 → ∀ e a' w', Ends lw W0 base ρ n (jumpQ P n c Q f) e a' w' → jumpW (fen r0) fu P C (Ends lw W0 base ρ n Q) f e a' w' := by
    intro f
    induction f with
    | zero =>
      intro W0 ρ hr0 e a' w' hE
      cases e with
      | goto l =>
        obtain ⟨s', ρ', W1, hk, hp, hrb, hs'⟩ := hE
        simp only [jumpQ] at hk
        simp only [jumpW]
        obtain ⟨h1, h2⟩ := find_ok (P := P) C c l hC
        cases hl : findLabel C l with
        | none => rw [h1 hl] at hk; exact ⟨s', ρ', W1, hk, hp, hrb, hs'⟩
        | some rest => obtain ⟨r, h3, _⟩ := h2 rest hl; rw [h3] at hk; exact hk.elim
      | _ => exact hE
    | succ f ih =>
      intro W0 ρ hr0 e a' w' hE
      cases e with
      | goto l =>
        obtain ⟨s', ρ', W1, hk, hp, hrb, hs'⟩ := hE
        simp only [jumpQ] at hk
        simp only [jumpW]
        obtain ⟨h1, h2⟩ := find_ok (P := P) C c l hC
        cases hl : findLabel C l with
        | none => rw [h1 hl] at hk; exact ⟨s', ρ', W1, hk, hp, hrb, hs'⟩
        | some rest =>
          obtain ⟨r, h3, h4⟩ := h2 rest hl
          rw [h3] at hk
          exact Code.wpIn_mono (fun e2 a2 w2 h2 => ih W0 ρ hr0 e2 a2 w2 (Ends.more hp hrb h2)) (run_sound hm rest r _ s' h4 hk r0 fu lw W1 base ρ' a' w' (hr0.on hrb) hs')
      | _ => exact hE
  exact Code.wpIn_mono (key f W0 ρ hr0) (run_sound hm C c _ s hC h r0 fu lw W0 base ρ a w hr0 hs)
inductive ARes where
  | tmp (t : Nat)
  | cell (t : Nat) (k : Option Nat)
def cres (P : Program) (n : Nat) : List ResultVar → Option (List ARes)
  | [] => some []
  | .tmp t :: rs => if t < n then (cres P n rs).map (.tmp t :: ·) else none
  | .cell t ty :: rs => if t < n then (match shp P ty, cres P n rs with
    | some k, some qs => some (.cell t k :: qs)
    | _, _ => none) else none
def resV (s : St) : List ARes → Option (List Value)
  | [] => some []
  | .tmp t :: rs => match resV s rs with
    | some vs => some (s.t t :: vs)
    | none => none
  | .cell t k :: rs => match ldA s.m k (s.t t), resV s rs with
    | some v, some vs => some (v :: vs)
    | _, _ => none
def oneV : List Value → Value
  | [v] => v
  | vs => .tuple vs.toArray
def bodyQ (res : List ARes) (K : Value → Mem → Prop) : Exit → St → Prop
  | .normal, s | .ret, s => match resV s res with
    | some vs => K (oneV vs) s.m
    | none => False
  | _, _ => False
def initT : List Value → Nat → Value
  | [], _ => undef
  | x :: _, 0 => x
  | _ :: xs, i + 1 => initT xs i
theorem initT_at (xs : List Value) (i : Nat) : initT xs i = (xs[i]?).getD undef := by
  induction xs generalizing i with
  | nil => rfl
  | cons x xs ih => cases i with
    | zero => rfl
    | succ i => simpa [initT] using ih i
def resF (tmps : Array Value) : ResultVar → Sem Value
  | .tmp t => pure (tmps.getD t undef)
  | .cell b t => do loadVar t (← asAddr (tmps.getD b undef))
theorem results_eq (fn : Func) (tmps : Array Value) : results fn tmps = (do
    let vs ← fn.results.mapM (resF tmps)
    pure (if h : vs.size = 1 then vs[0] else .tuple vs)) := rfl
theorem res_sound (h : SRel lw W0 base ρ n s a w) : ∀ (rvs : List ResultVar) (res : List ARes) (vs : List Value), cres P n rvs = some res → resV s res = some vs →
    ∃ us, (rvs.mapM (resF a.tmps)).run P w = .ok us w ∧ VL ρ vs us := by
  intro rvs
  induction rvs with
  | nil => intro res vs hc hv; simp [cres] at hc; subst hc; simp [resV] at hv; subst hv; exact ⟨[], by simp [go_sem], .nil _⟩
  | cons r rvs ih =>
    intro res vs hc hv
    cases r with
    | tmp t =>
      simp only [cres] at hc
      split at hc
      · rename_i ht
        cases hr : cres P n rvs with
        | none => rw [hr] at hc; cases hc
        | some qs =>
          rw [hr] at hc
          cases hc
          simp only [resV] at hv
          split at hv
          · rename_i vs' hvs
            cases hv
            obtain ⟨us, hrun, hvl⟩ := ih qs vs' hr hvs
            refine ⟨a.tmps.getD t undef :: us, ?_, .cons (h.tmps t ht) hvl⟩
            rw [List.mapM_cons]
            simp only [resF, Sem.run_bind, Sem.run_pure, Result.andThen_ok, hrun]
          · cases hv
      · cases hc
    | cell t ty =>
      simp only [cres] at hc
      split at hc
      · rename_i ht
        split at hc
        · rename_i k qs hk hr
          cases hc
          simp only [resV] at hv
          split at hv
          · rename_i v vs' hld hvs
            cases hv
            obtain ⟨us, hrun, hvl⟩ := ih qs vs' hr hvs
            have htv := h.tmps t ht
            obtain ⟨v', hl, hvr⟩ := ldA_run (P := P) h.mem hk htv hld
            refine ⟨v' :: us, ?_, .cons hvr hvl⟩
            rw [List.mapM_cons]
            have haddr : (resF a.tmps (.cell t ty)).run P w = .ok v' w := by
              generalize hy : a.tmps.getD t undef = y at htv hl
              unfold ldA at hld
              split at hld
              · rename_i hst
                rw [hst] at htv
                cases htv with
                | ptr hp =>
                  simp only [Instr.loadAt, Instr.sureAddr, Sem.run_bind, Sem.run_pure, Result.andThen_ok] at hl
                  simp only [resF, hy, asAddr, Sem.run_bind, Sem.run_pure, Result.andThen_ok, hl]
              · cases hld
            simp only [Sem.run_bind, haddr, Result.andThen_ok, hrun, Sem.run_pure]
          · cases hv
        · cases hc
      · cases hc
/-- A function whose body has a compiled form. -/
structure FnOk (P : Program) (f : FuncId) (n : Nat) (c : ACode) (res : List ARes) : Prop where
  ok : ∃ fn C, P.funcs[f]? = some fn ∧ (fn.name == "runtime.NumGoroutine") = false ∧ fn.body = some C ∧ fn.ntmps = n ∧ ccode P n C = some c ∧ cres P n fn.results.toList = some res
/-- Something that is neither cells nor a map turns. -/
theorem MRel.obj (h : MRel W0 base ρ m w) {D : Nat} {o : Obj} (o' : Obj) (hD : w.heap[D]? = some o) (ho : pinned o = true) (h0 : W0.heap.size ≤ D) (hb : base ≤ D) : MRel W0 base ρ m (w.putObj D o') where
  len := h.len
  below := h.below.trans ⟨rfl, rfl, rfl, by simp, fun k hk => World.putObj_heap_other (by omega)⟩
  le := by simpa using h.le
  ro := fun id e xs hm => by
    obtain ⟨b, of, tot, hp, hc⟩ := h.ro id e xs hm
    refine ⟨b, of, tot, hp, fun k x hx => ?_⟩
    obtain ⟨h1, y, hy, hv⟩ := hc k x hx
    refine ⟨h1, y, ?_, hv⟩
    rw [World.cell?_of_block (w := w) (World.putObj_heap_other (show b ≠ D by omega))]
    exact hy
  own := fun id e xs hm => by
    obtain ⟨b, tot, hp, hl, hc⟩ := h.own id e xs hm
    refine ⟨b, tot, hp, hl, fun ht => ?_⟩
    obtain ⟨h1, cur, hg, hs, hcur⟩ := hc ht
    refine ⟨h1, cur, ?_, hs, hcur⟩
    rw [World.putObj_heap_other (fun e => by subst e; rw [hD] at hg; cases hg; cases ho)]
    exact hg
  apart := h.apart
  maps := h.maps.step (List.prefix_refl _) (fun i e es hm => hm) fun b2 ce cl _ hb2 => by
    rw [World.putObj_heap_other (fun e => by subst e; rw [hD] at hb2; cases hb2; cases ho)]
    exact hb2
  oth := fun k o1 h1 h2 => by
    have := (Array.getElem?_eq_some_iff.1 h1).1
    rw [World.putObj_heap_other (show k ≠ D by omega)]
    exact h.oth k o1 h1 h2
  tab := h.tab
/-- The marks are taken off: each shuts its block. -/
theorem leave_marks {fn : Func} {tmps : Array Value} {R : Ending → World → Prop} : ∀ (L : List Nat) (w : World), MRel W0 base ρ m w → L.Nodup → (∀ D ∈ L, W0.heap.size ≤ D ∧ base ≤ D ∧ w.heap[D]? = some (.deferred (some []))) →
    (∀ w', MRel W0 base ρ m w' → ∃ v, (results fn tmps).run P w' = .ok v w' ∧ R (.returned v) w') → LeavesInM Fence.wide 0 P fn tmps R (L.map markOf) .returning w := by
  intro L
  induction L with
  | nil => intro w h _ _ hR; exact hR w h
  | cons D L ih =>
    intro w h hnd hD hR
    obtain ⟨h1, h2, h3⟩ := hD D (List.mem_cons_self ..)
    rw [List.nodup_cons] at hnd
    refine ⟨by simp, .inl ⟨D, w.putObj D (.deferred none), rfl, run_takeDeferred h3, ih _ (h.obj _ h3 rfl h1 h2) hnd.2 (fun E hE => ?_) hR⟩⟩
    obtain ⟨e1, e2, e3⟩ := hD E (List.mem_cons_of_mem _ hE)
    refine ⟨e1, e2, ?_⟩
    rw [World.putObj_heap_other (fun e => hnd.1 (by rw [← e]; exact hE))]
    exact e3
theorem body_sound (hm : P.follows .mixedOrders = true) {f : FuncId} {n : Nat} {c : ACode} {res : List ARes} (hf : FnOk P f n c res) {xs : List Value} (hx : xs.length ≤ n) {m : Mem} {K : Value → Mem → Prop} (h : runC P n c (bodyQ res K) ⟨initT xs, m⟩)
    {W0 : World} {base : Nat} {ρ : Places} {w : World} {cargs : List Value} (hmr : MRel W0 base ρ m w) (hv : VL ρ xs cargs) :
    Calls P f cargs.toArray w (fun e w' => ∃ v v' m' ρ', e = .returned v' ∧ K v m' ∧ ρ <+: ρ' ∧ MRel W0 base ρ' m' w' ∧ VR ρ' v v') := by
  obtain ⟨fn, C, hfn, _, hb, hn, hc, hres⟩ := hf.ok
  refine callsIn_wide.1 (callsIn_of_wp_marks (F := Fence.wide) (n := 0) hfn hb trivial ?_)
  have hcl : cargs.length = xs.length := hv.1.symm
  have hs : SRel W0.heap.size W0 base ρ n ⟨initT xs, m⟩ { tmps := cargs.toArray ++ Array.replicate (fn.ntmps - cargs.toArray.size) undef, defers := [] } w := by
    refine ⟨hmr, ⟨Nat.le_refl _, [], rfl, .nil, fun _ h => by cases h⟩, by simp [hn]; omega, fun i hi => ?_⟩
    simp only [initT_at]
    by_cases hlt : i < xs.length
    · obtain ⟨y, hy, hvr⟩ := hv.at_ (List.getElem?_eq_getElem hlt)
      rw [List.getElem?_eq_getElem hlt]
      simp only [Option.getD_some]
      have : (cargs.toArray ++ Array.replicate (fn.ntmps - cargs.toArray.size) undef).getD i undef = y := by
        rw [Array.getD_eq_getD_getElem?, Array.getElem?_append_left (by simp; omega)]
        simp [hy]
      rw [this]
      exact hvr
    · rw [List.getElem?_eq_none (by omega)]
      simp only [Option.getD_none]
      have : (cargs.toArray ++ Array.replicate (fn.ntmps - cargs.toArray.size) undef).getD i undef = undef := by
        rw [Array.getD_eq_getD_getElem?, Array.getElem?_append_right (by simp; omega), Array.getElem?_replicate]
        split <;> rfl
      rw [this]
      exact undef_rel _
  refine Code.wpIn_mono ?_ (run_sound hm C c _ _ hc h none 0 _ W0 base ρ _ w (fun _ h => by cases h) hs)
  rintro e a' w' ⟨s', ρ', W1, hk, hp, hrb, hs'⟩
  have fin : bodyQ res K .ret s' → bodyPostM Fence.wide 0 P fn (fun e w' => ∃ v v' m' ρ', e = .returned v' ∧ K v m' ∧ ρ <+: ρ' ∧ MRel W0 base ρ' m' w' ∧ VR ρ' v v') .ret a' w' := by
    intro hk
    simp only [bodyQ] at hk
    split at hk
    · rename_i vs hvs
      obtain ⟨hle, L, hL, hnd, hD⟩ := hs'.defers
      show LeavesInM Fence.wide 0 P fn a'.tmps _ a'.defers .returning w'
      rw [hL]
      refine leave_marks L w' (hs'.mem.from hrb) hnd (fun D hDL => ⟨(hD D hDL).1, (hD D hDL).2.1, hs'.mem.oth _ _ (hD D hDL).2.2 rfl⟩) fun w2 hm2 => ?_
      obtain ⟨us, hrun, hvl⟩ := res_sound (P := P) (lw := W0.heap.size) (a := { a' with defers := [] }) (s := s') (n := n) ⟨hm2, ⟨Nat.le_refl _, [], rfl, .nil, fun _ h => by cases h⟩, hs'.size, hs'.tmps⟩ fn.results.toList res vs hres hvs
      refine ⟨oneV us, ?_, oneV vs, oneV us, s'.m, ρ', rfl, hk, hp, hm2, ?_⟩
      · have hmm : (fn.results.mapM (resF a'.tmps)).run P w2 = .ok us.toArray w2 := by
          rw [Array.mapM_eq_mapM_toList, Sem.run_map, hrun, Result.andThen_ok]
        rw [results_eq, Sem.run_bind, hmm]
        simp only [Result.andThen_ok, Sem.run_pure]
        congr 1
        match us with
        | [] => rfl
        | [v] => rfl
        | u :: v :: us => simp [oneV]
      · match vs, us, hvl with
        | [], [], hvl => exact .tup rfl (fun i x y hx => by simp at hx)
        | [v], [u], hvl => exact hvl.2 0 v u rfl rfl
        | a :: b :: vs, c :: d :: us, hvl => exact .tup hvl.arr.1 hvl.arr.2
        | [], _ :: _, hvl => exact absurd hvl.1 (by simp)
        | _ :: _, [], hvl => exact absurd hvl.1 (by simp)
        | [_], _ :: _ :: _, hvl => exact absurd hvl.1 (by simp)
        | _ :: _ :: _, [_], hvl => exact absurd hvl.1 (by simp)
    · exact hk.elim
  cases e with
  | normal => exact fin hk
  | ret => exact fin hk
  | _ => exact hk.elim
theorem ac_of_run (hm : P.follows .mixedOrders = true) {f : FuncId} {n : Nat} {c : ACode} {res : List ARes} (hf : FnOk P f n c res) {xs : List Value} (hx : xs.length ≤ n) {m : Mem} {K : Value → Mem → Prop} (h : runC P n c (bodyQ res K) ⟨initT xs, m⟩) : AC P f xs m K := by
  refine ⟨?_, fun W0 base ρ w cargs hmr hv => body_sound hm hf hx h hmr hv⟩
  obtain ⟨fn, C, hfn, hname, hb, _⟩ := hf.ok
  exact ⟨fn, hfn, hname, by rw [hb]; rfl⟩
/-- What a function that writes into nothing leaves: old memory, only to be read, and new blocks. -/
def newQ (m : Mem) (K : Value → Mem → Prop) (v : Value) (m' : Mem) : Prop := ∃ new, m' = roM m ++ new ∧ NoRo new ∧ K v new
theorem rc_of_run (hm : P.follows .mixedOrders = true) {f : FuncId} {n : Nat} {c : ACode} {res : List ARes} (hf : FnOk P f n c res) {xs : List Value} (hx : xs.length ≤ n) {m : Mem} {K : Value → Mem → Prop}
    (h : runC P n c (bodyQ res (newQ m K)) ⟨initT xs, roM m⟩) : RC P f xs m K := by
  refine ⟨?_, fun ρ w cargs hmr hv => (body_sound hm hf hx h hmr hv).mono ?_⟩
  · obtain ⟨fn, C, hfn, hname, hb, _⟩ := hf.ok
    exact ⟨fn, hfn, hname, by rw [hb]; rfl⟩
  · rintro e w' ⟨v, v', m', ρ', he, ⟨new, rfl, hn, hk⟩, ⟨t, rfl⟩, hmr', hvr⟩
    exact ⟨v, v', new, t, he, hk, hn, hmr', hvr⟩
/-! What the running of compiled code is rewritten by. -/
theorem upd_get (f : Nat → Value) (d : Nat) (v : Value) (i : Nat) : upd f d v i = if i = d then v else f i := rfl
theorem rdc_left {m new : Mem} {id k : Nat} (h : id < m.length) : rdc (m ++ new) id k = rdc m id k := by
  unfold rdc; rw [List.getElem?_append_left h]
theorem rdc_new (m : Mem) (e : TypeId) (cs : List Value) (k : Nat) : rdc (m ++ [⟨.own, e, cs⟩]) m.length k = cs[k]? := by
  unfold rdc; simp
theorem lt_left {m new : Mem} {id : Nat} (h : id < m.length) : id < (m ++ new).length := by simp; omega
theorem lt_new (m : Mem) (b : Blk) : m.length < (m ++ [b]).length := by simp
/-- The place of a slice's element. -/
def pAt : Value → Nat → Value
  | .slice (some ⟨id, off, _⟩) _ _, k => .pointer (some ⟨id, off + k, none⟩)
  | _, _ => undef
/-- A slice that holds these numbers. -/
structure IntsA (m : Mem) (v : Value) (l : List Int) : Prop where
  len : lenA v = some (.int .i64 l.length)
  bd : l.length ≤ 9223372036854775807
  at_ : ∀ k, k < l.length → iadA 1 v (.int .i64 (k : Int)) = some (pAt v k)
  ld : ∀ k, k < l.length → ldA m none (pAt v k) = some (.int .i64 (l.getD k 0))
  src : slR m 1 v = some (l.map (Value.int .i64))
theorem ldA_ext {m new : Mem} {k : Option Nat} {p v : Value} (h : ldA m k p = some v) : ldA (m ++ new) k p = some v := by
  unfold ldA at *
  split at h
  · split at h
    · exact rdc_ext h
    · split at h
      · rename_i xs hx; cases h; rw [rdn_ext _ _ _ hx]
      · cases h
  · cases h
theorem rdl_ext {m new : Mem} {id off k : Nat} {xs : List Value} (h : rdl m id off k = some xs) : rdl (m ++ new) id off k = some xs := by
  unfold rdl at *
  cases hm : m[id]? with
  | none => rw [hm] at h; cases h
  | some b => rw [hm] at h; rw [List.getElem?_append_left (List.getElem?_eq_some_iff.1 hm).1, hm]; exact h
theorem slR_ext {m new : Mem} {sz : Nat} {v : Value} {xs : List Value} (h : slR m sz v = some xs) : slR (m ++ new) sz v = some xs := by
  unfold slR at *
  split at h
  · exact h
  · exact rdl_ext h
  · cases h
theorem IntsA.ext {m : Mem} {v : Value} {l : List Int} (h : IntsA m v l) (new : Mem) : IntsA (m ++ new) v l :=
  ⟨h.len, h.bd, h.at_, fun k hk => ldA_ext (h.ld k hk), slR_ext h.src⟩
theorem ldA_roM (m : Mem) (k : Option Nat) (p : Value) : ldA (roM m) k p = ldA m k p := by
  have h1 : ∀ id off, rdc (roM m) id off = rdc m id off := fun id off => rdc_roM m id off
  have h2 : ∀ id k off, rdn (roM m) id off k = rdn m id off k := by
    intro id k
    induction k with
    | zero => intro off; rfl
    | succ k ih => intro off; simp only [rdn, h1, ih]
  unfold ldA
  split <;> simp only [h1, h2]
theorem rdl_roM (m : Mem) (id off k : Nat) : rdl (roM m) id off k = rdl m id off k := by
  unfold rdl roM
  rw [List.getElem?_map]
  cases m[id]? with
  | none => rfl
  | some b => obtain ⟨kd, e, xs⟩ := b; cases kd <;> rfl
theorem slR_roM (m : Mem) (sz : Nat) (v : Value) : slR (roM m) sz v = slR m sz v := by
  unfold slR; split <;> simp only [rdl_roM]
theorem IntsA.ro {m : Mem} {v : Value} {l : List Int} (h : IntsA m v l) : IntsA (roM m) v l :=
  ⟨h.len, h.bd, h.at_, fun k hk => by rw [ldA_roM]; exact h.ld k hk, by rw [slR_roM]; exact h.src⟩
/-- A whole block of numbers, as a slice. -/
theorem IntsA.of_block {m : Mem} {id off fl : Nat} {l : List Int} (hb : l.length ≤ 9223372036854775807) (h : ∀ k, k < l.length → rdc m id (off + k) = some (.int .i64 (l.getD k 0))) (hr : rdl m id off l.length = some (l.map (Value.int .i64))) :
    IntsA m (.slice (some ⟨id, off, none⟩) l.length fl) l := by
  refine ⟨rfl, hb, fun k hk => ?_, fun k hk => ?_, ?_⟩
  · simp only [iadA, pAt, Int.toNat_natCast, Nat.mul_one]
    rw [if_pos (by omega)]
  · simp only [pAt, ldA]
    exact h k hk
  · simp only [slR, Nat.mul_one]; exact hr
theorem IntsA.own {m : Mem} {e : TypeId} {l : List Int} (hb : l.length ≤ 9223372036854775807) (fl : Nat) : IntsA (m ++ [⟨.own, e, l.map (Value.int .i64)⟩]) (.slice (some ⟨m.length, 0, none⟩) l.length fl) l := by
  refine IntsA.of_block hb (fun k hk => ?_) ?_
  · rw [rdc_new, Nat.zero_add, List.getElem?_map, List.getElem?_eq_getElem hk, List.getD_eq_getElem?_getD, List.getElem?_eq_getElem hk]
    rfl
  · unfold rdl
    simp [List.take_of_length_le]
theorem IntsA.nil (m : Mem) : IntsA m (.slice none 0 0) [] := ⟨rfl, by simp, fun k hk => absurd hk (by simp), fun k hk => absurd hk (by simp), rfl⟩
theorem w64 {x : Int} (h : -9223372036854775808 ≤ x ∧ x ≤ 9223372036854775807) : IntKind.i64.wrap x = x := IntWalk.i64_in x h
theorem runL_nil (s : St) (K : St → Prop) : runL P s [] K = K s := rfl
theorem runL_cons (s : St) (r : ARow) (rs : List ARow) (K : St → Prop) : runL P s (r :: rs) K = stepRow P s r fun s' => runL P s' rs K := rfl
theorem stepRow_none (s : St) (d : Option Nat) (x : AOp) (K : St → Prop) : stepRow P s ⟨d, x, none⟩ K = step P s x fun v m => K (s.put d v m) := rfl
theorem mmA_min (k k' : IntKind) (a b : Int) : mmA false (.int k a) (.int k' b) = some (.int k (min a b)) := by
  simp only [mmA]; congr 2; simp; split <;> omega
theorem mmA_max (k k' : IntKind) (a b : Int) : mmA true (.int k a) (.int k' b) = some (.int k (max a b)) := by
  simp only [mmA]; congr 2; simp; split <;> omega
theorem lenA_sl (a : Option Addr) (k c : Nat) : lenA (.slice a k c) = some (.int .i64 k) := rfl
/-! The running of compiled code, told without a function in it: what is still to come stands as data. -/
inductive Kont where
  | done (Q : Exit → St → Prop)
  | seq (y : ACode) (k : Kont)
  | block (id : Nat) (k : Kont)
  | scope (f : Nat) (c : ACode) (k : Kont)
def den (P : Program) (n : Nat) : Kont → Exit → St → Prop
  | .done Q => Q
  | .seq y k => seqQ (runC P n y (den P n k)) (den P n k)
  | .block id k => blockQ id (den P n k)
  | .scope f c k => jumpQ P n c (den P n k) f
def St.putT (s : St) (d : Option Nat) (v : Value) : St := s.put d v s.m
def goC (P : Program) (n : Nat) (c : ACode) (k : Kont) (s : St) : Prop := runC P n c (den P n k) s
def goX (P : Program) (n : Nat) (e : Exit) (k : Kont) (s : St) : Prop := den P n k e s
def goR (P : Program) (n : Nat) (rs : List ARow) (k : Kont) (s : St) : Prop := runL P s rs (den P n k .normal)
def goB (P : Program) (n : Nat) (v : Value) (x y : ACode) (k : Kont) (s : St) : Prop := match v with
  | .bool b => if b = true then goC P n x k s else goC P n y k s
  | _ => False
def goV (P : Program) (n : Nat) (o : Option Value) (d : Option Nat) (rs : List ARow) (k : Kont) (s : St) : Prop := match o with
  | some v => goR P n rs k (s.putT d v)
  | none => False
def goA (P : Program) (n : Nat) (o : Option (Value × Mem)) (d : Option Nat) (rs : List ARow) (k : Kont) (s : St) : Prop := match o with
  | some r => goR P n rs k (s.put d r.1 r.2)
  | none => False
def goS (P : Program) (n : Nat) (o : Option Mem) (d : Option Nat) (rs : List ARow) (k : Kont) (s : St) : Prop := match o with
  | some m => goR P n rs k (s.put d undef m)
  | none => False
def goG (P : Program) (n : Nat) (v : Value) (want : Bool) (d : Option Nat) (x : AOp) (rs : List ARow) (k : Kont) (s : St) : Prop := match v with
  | .bool b => if b = want then goR P n (⟨d, x, none⟩ :: rs) k s else goR P n rs k (s.putT d undef)
  | .tuple _ => goR P n rs k (s.putT d undef)
  | _ => False
def callH (P : Program) (n : Nat) (f : FuncId) (args : List Value) (m : Mem) (d : Option Nat) (rs : List ARow) (k : Kont) (s : St) : Prop := AC P f args m fun v m' => goR P n rs k (s.put d v m')
def rcallH (P : Program) (n : Nat) (f : FuncId) (args : List Value) (m : Mem) (d : Option Nat) (rs : List ARow) (k : Kont) (s : St) : Prop := RC P f args m fun v new => goR P n rs k (s.put d v (m ++ new))
def callV (P : Program) (n : Nat) (f : Value) (args : List Value) (d : Option Nat) (rs : List ARow) (k : Kont) (s : St) : Prop := match f with
  | .func (.func g) first cap => callH P n g (first.toList ++ args ++ cap.toList) s.m d rs k s
  | _ => False
def rcallV (P : Program) (n : Nat) (f : Value) (args : List Value) (d : Option Nat) (rs : List ARow) (k : Kont) (s : St) : Prop := match f with
  | .func (.func g) first cap => rcallH P n g (first.toList ++ args ++ cap.toList) s.m d rs k s
  | _ => False
def invV (P : Program) (n : Nat) (o : Option (FuncId × Value)) (args : List Value) (d : Option Nat) (rs : List ARow) (k : Kont) (s : St) : Prop := match o with
  | some r => rcallH P n r.1 (r.2 :: args) s.m d rs k s
  | none => False
def loopH (P : Program) (n : Nat) (c : ACode) (k : Kont) (s : St) : Prop := LoopA P n c (den P n k) s
def rangeH (P : Program) (n : Nat) (v : Value) (g : Operand) (ps : List Nat) (c d : ACode) (k : Kont) (s : St) : Prop := RangeA P n g ps c d (den P n k) s
def scopeH (P : Program) (n : Nat) (c : ACode) (k : Kont) (s : St) : Prop := ScopeA P n c (den P n k) s
/-- A jump, by what stands behind its label. -/
def goJ (P : Program) (n : Nat) (o : Option ACode) (l f : Nat) (c : ACode) (k : Kont) (s : St) : Prop := match o with
  | some r => goC P n r (.scope f c k) s
  | none => goX P n (.goto l) k s
def findS (o : Option ACode) (b : ACode) (l : Nat) : Option ACode := match o with
  | some r => some (.seq r b)
  | none => findA b l
def pickA (c x y : Value) : Option Value := match c with
  | .bool b => some (if b = true then x else y)
  | _ => none
def beqA (neg : Bool) (x y : Value) : Option Value := match x, y with
  | .bool p, .bool q => some (.bool (if neg then !(p == q) else (p == q)))
  | _, _ => none
def convA (k : IntKind) : Value → Option Value
  | .int _ j => some (.int k (k.wrap j))
  | _ => none
def bldA (z : List Value) (ps : List (Nat × Nat × Value)) : Option Value := match fillA z ps with
  | some cs => some (.agg cs.toArray)
  | none => none
def bslA (m : Mem) (e sz len : Nat) (z : List Value) (ps : List (Nat × Nat × Value)) : Option (Value × Mem) := match fillA z ps with
  | some cs => some (.slice (some ⟨m.length, 0, none⟩) len sz, m ++ [⟨.own, e, cs⟩])
  | none => none
def mksA (m : Mem) (e byt : Nat) (z : List Value) (l c : Value) : Option (Value × Mem) := match l, c with
  | .int _ a, .int _ b => if 0 ≤ a ∧ a ≤ b ∧ b * byt ≤ 140737488355328 ∧ b ≤ 140737488355328 then some (.slice (some ⟨m.length, 0, none⟩) a.toNat z.length, m ++ [⟨.own, e, repL a.toNat z⟩]) else none
  | _, _ => none
def stP (m : Mem) (k : Nat) (p v : Value) : Option Mem := match p with
  | .pointer (some ⟨id, off, none⟩) => if v.cells.size = k then stA m id off v.cells.toList else none
  | _ => none
def appP (m : Mem) (e sz byt : Nat) (y v : Value) : Option (Value × Mem) := match slR m sz v with
  | some xs => if onesB xs = true then appA m e sz byt y xs (lenOfA v) else none
  | none => none
section
variable (s : St) (k : Kont) (d : Option Nat) (rs : List ARow)
theorem go_start (c : ACode) (Q : Exit → St → Prop) (h : goC P n c (.done Q) s) : runC P n c Q s := h
theorem goC_skip : goC P n .skip k s = goX P n .normal k s := rfl
theorem goC_reg : goC P n (.reg rs) k s = goR P n rs k s := rfl
theorem goC_seq (x y : ACode) : goC P n (.seq x y) k s = goC P n x (.seq y k) s := rfl
theorem goC_cond (c : Operand) (x y : ACode) : goC P n (.cond c x y) k s = goB P n (s.ev c) x y k s := rfl
theorem goC_block (id : Nat) (c : ACode) : goC P n (.block id c) k s = goC P n c (.block id k) s := rfl
theorem goC_both (x y : ACode) : goC P n (.both x y) k s = (goC P n x k s ∧ goC P n y k s) := rfl
theorem goC_loop (c : ACode) : goC P n (.loop c) k s = loopH P n c k s := rfl
theorem goC_range (g : Operand) (ps : List Nat) (c d : ACode) : goC P n (.range g ps c d) k s = rangeH P n (s.ev g) g ps c d k s := rfl
theorem goC_scope (c : ACode) : goC P n (.scope c) k s = scopeH P n c k s := rfl
theorem goC_goto (l : Nat) : goC P n (.goto l) k s = goX P n (.goto l) k s := rfl
theorem goC_label (l : Nat) : goC P n (.label l) k s = goX P n .normal k s := rfl
theorem goX_seq_goto (y : ACode) (l : Nat) : goX P n (.goto l) (.seq y k) s = goX P n (.goto l) k s := rfl
theorem goX_block_goto (id l : Nat) : goX P n (.goto l) (.block id k) s = goX P n (.goto l) k s := rfl
theorem goX_scope_normal (f : Nat) (c : ACode) : goX P n .normal (.scope f c k) s = goX P n .normal k s := by cases f <;> rfl
theorem goX_scope_ret (f : Nat) (c : ACode) : goX P n .ret (.scope f c k) s = goX P n .ret k s := by cases f <;> rfl
theorem goX_scope_exit (f : Nat) (c : ACode) (i : Nat) : goX P n (.exit i) (.scope f c k) s = goX P n (.exit i) k s := by cases f <;> rfl
theorem goX_scope_goto (f : Nat) (c : ACode) (l : Nat) : goX P n (.goto l) (.scope (f + 1) c k) s = goJ P n (findA c l) l f c k s := by
  show jumpQ P n c (den P n k) (f + 1) (.goto l) s = _
  simp only [jumpQ, goJ]
  cases findA c l <;> rfl
theorem goJ_some (r c : ACode) (l f : Nat) : goJ P n (some r) l f c k s = goC P n r (.scope f c k) s := rfl
theorem goJ_none (c : ACode) (l f : Nat) : goJ P n none l f c k s = goX P n (.goto l) k s := rfl
theorem findA_seq (a b : ACode) (l : Nat) : findA (.seq a b) l = findS (findA a l) b l := by
  simp only [findA, findS]
theorem findA_label (l' l : Nat) : findA (.label l') l = if l' = l then some .skip else none := by
  simp [findA]
theorem findA_reg (rs : List ARow) (l : Nat) : findA (.reg rs) l = none := rfl
theorem findA_skip (l : Nat) : findA .skip l = none := rfl
theorem findA_cond (c : Operand) (x y : ACode) (l : Nat) : findA (.cond c x y) l = none := rfl
theorem findA_block (id : Nat) (x : ACode) (l : Nat) : findA (.block id x) l = none := rfl
theorem findA_loop (x : ACode) (l : Nat) : findA (.loop x) l = none := rfl
theorem findA_exit (i l : Nat) : findA (.exit i) l = none := rfl
theorem findA_goto (i l : Nat) : findA (.goto i) l = none := rfl
theorem findA_ret (l : Nat) : findA .ret l = none := rfl
theorem findS_some (r b : ACode) (l : Nat) : findS (some r) b l = some (.seq r b) := rfl
theorem findS_none (b : ACode) (l : Nat) : findS none b l = findA b l := rfl
theorem scope_run (hm : P.follows .mixedOrders = true) {c : ACode} {k : Kont} {s : St} (f : Nat) (h : goC P n c (.scope f c k) s) : scopeH P n c k s := scope_intro hm f h
theorem goC_exit (id : Nat) : goC P n (.exit id) k s = goX P n (.exit id) k s := rfl
theorem goC_ret : goC P n .ret k s = goX P n .ret k s := rfl
theorem goB_true (x y : ACode) : goB P n (.bool true) x y k s = goC P n x k s := rfl
theorem goB_false (x y : ACode) : goB P n (.bool false) x y k s = goC P n y k s := rfl
theorem goX_seq_normal (y : ACode) : goX P n .normal (.seq y k) s = goC P n y k s := rfl
theorem goX_seq_exit (y : ACode) (i : Nat) : goX P n (.exit i) (.seq y k) s = goX P n (.exit i) k s := rfl
theorem goX_seq_ret (y : ACode) : goX P n .ret (.seq y k) s = goX P n .ret k s := rfl
theorem goX_block_normal (id : Nat) : goX P n .normal (.block id k) s = goX P n .normal k s := rfl
theorem goX_block_ret (id : Nat) : goX P n .ret (.block id k) s = goX P n .ret k s := rfl
theorem goX_block_exit (id i : Nat) : goX P n (.exit i) (.block id k) s = if i = id then goX P n .normal k s else goX P n (.exit i) k s := rfl
theorem goX_done (e : Exit) (Q : Exit → St → Prop) : goX P n e (.done Q) s = Q e s := rfl
theorem goR_nil : goR P n [] k s = goX P n .normal k s := rfl
theorem goV_some (v : Value) : goV P n (some v) d rs k s = goR P n rs k (s.putT d v) := rfl
theorem goA_some (v : Value) (m : Mem) : goA P n (some (v, m)) d rs k s = goR P n rs k (s.put d v m) := rfl
theorem goS_some (m : Mem) : goS P n (some m) d rs k s = goR P n rs k (s.put d undef m) := rfl
theorem goG_run (b : Bool) (x : AOp) : goG P n (.bool b) b d x rs k s = goR P n (⟨d, x, none⟩ :: rs) k s := by simp [goG]
theorem goG_tf (x : AOp) : goG P n (.bool true) false d x rs k s = goR P n rs k (s.putT d undef) := rfl
theorem goG_ft (x : AOp) : goG P n (.bool false) true d x rs k s = goR P n rs k (s.putT d undef) := rfl
theorem goG_no (xs : Array Value) (w : Bool) (x : AOp) : goG P n (.tuple xs) w d x rs k s = goR P n rs k (s.putT d undef) := rfl
theorem goR_guard (x : AOp) (g : Nat) (want : Bool) : goR P n (⟨d, x, some (g, want)⟩ :: rs) k s = goG P n (s.t g) want d x rs k s := by
  simp only [goR, goG, runL, stepRow, guardOn]
  generalize s.t g = y
  cases y <;> first | rfl | skip
  rename_i b
  cases b <;> cases want <;> rfl
theorem callV_func (g : FuncId) (first cap : Array Value) (args : List Value) : callV P n (.func (.func g) first cap) args d rs k s = callH P n g (first.toList ++ args ++ cap.toList) s.m d rs k s := rfl
theorem rcallV_func (g : FuncId) (first cap : Array Value) (args : List Value) : rcallV P n (.func (.func g) first cap) args d rs k s = rcallH P n g (first.toList ++ args ++ cap.toList) s.m d rs k s := rfl
theorem pickA_true (x y : Value) : pickA (.bool true) x y = some x := rfl
theorem pickA_false (x y : Value) : pickA (.bool false) x y = some y := rfl
theorem aeqA_agg {neg : Bool} {k : Nat} {xs ys : Array Value} {r : Bool} (hx : xs.size = k) (hy : ys.size = k) (h : intsEq xs.toList ys.toList = some r) : aeqA neg k (.agg xs) (.agg ys) = some (.bool (if neg then !r else r)) := by
  simp only [aeqA]
  rw [if_pos ⟨hx, hy⟩, h]
  rfl
/-- Two rows of numbers of one kind. -/
theorem intsEq_map (q : IntKind) : ∀ (l1 l2 : List Int), l1.length = l2.length → intsEq (l1.map (Value.int q)) (l2.map (Value.int q)) = some (l1 == l2)
  | [], [], _ => rfl
  | [], _ :: _, h => by simp at h
  | _ :: _, [], h => by simp at h
  | a :: l1, b :: l2, h => by
    simp only [List.map_cons, intsEq, if_true]
    rw [intsEq_map q l1 l2 (by simpa using h)]
    simp
theorem beqA_eq (p q : Bool) : beqA false (.bool p) (.bool q) = some (.bool (p == q)) := rfl
theorem beqA_ne (p q : Bool) : beqA true (.bool p) (.bool q) = some (.bool (!(p == q))) := rfl
theorem convA_int (k k' : IntKind) (j : Int) : convA k (.int k' j) = some (.int k (k.wrap j)) := rfl
theorem stP_ptr (m : Mem) (j id off : Nat) (v : Value) : stP m j (.pointer (some ⟨id, off, none⟩)) v = if v.cells.size = j then stA m id off v.cells.toList else none := rfl
theorem stP_int (m : Mem) (id off : Nat) (kd : IntKind) (x : Int) : stP m 1 (.pointer (some ⟨id, off, none⟩)) (.int kd x) = stA m id off [.int kd x] := rfl
theorem stP_bool (m : Mem) (id off : Nat) (b : Bool) : stP m 1 (.pointer (some ⟨id, off, none⟩)) (.bool b) = stA m id off [.bool b] := rfl
theorem stP_sl (m : Mem) (id off : Nat) (a : Option Addr) (l c : Nat) : stP m 1 (.pointer (some ⟨id, off, none⟩)) (.slice a l c) = stA m id off [.slice a l c] := rfl
theorem stP_map (m : Mem) (id off : Nat) (r : Option Nat) : stP m 1 (.pointer (some ⟨id, off, none⟩)) (.map r) = stA m id off [.map r] := rfl
theorem stP_fn (m : Mem) (id off : Nat) (f : Fn) (a b : Array Value) : stP m 1 (.pointer (some ⟨id, off, none⟩)) (.func f a b) = stA m id off [.func f a b] := rfl
theorem stP_agg (m : Mem) (j id off : Nat) (l : List Value) (h : l.length = j) : stP m j (.pointer (some ⟨id, off, none⟩)) (.agg l.toArray) = stA m id off l := by
  simp [stP, Value.cells, h]
theorem callH_ac {f : FuncId} {args : List Value} {m : Mem} {s : St} {d : Option Nat} {rs : List ARow} {k : Kont} {K : Value → Mem → Prop} (h : AC P f args m K) (hk : ∀ v m', K v m' → goR P n rs k (s.put d v m')) : callH P n f args m d rs k s := h.mono hk
theorem callH_rc {f : FuncId} {args : List Value} {m : Mem} {s : St} {d : Option Nat} {rs : List ARow} {k : Kont} {K : Value → Mem → Prop} (h : RC P f args m K) (hk : ∀ v new, K v new → goR P n rs k (s.put d v (m ++ new))) : callH P n f args m d rs k s := (h.mono hk).ac
theorem rcallH_rc {f : FuncId} {args : List Value} {m : Mem} {s : St} {d : Option Nat} {rs : List ARow} {k : Kont} {K : Value → Mem → Prop} (h : RC P f args m K) (hk : ∀ v new, K v new → goR P n rs k (s.put d v (m ++ new))) : rcallH P n f args m d rs k s := h.mono hk
theorem loop_inv (hm : P.follows .mixedOrders = true) {c : ACode} {k : Kont} {s : St} (I : St → Prop) (μ : St → Nat) (h0 : I s)
    (round : ∀ s, I s → goC P n c (.done (seqQ (fun s' => I s' ∧ μ s' < μ s) (den P n k))) s) : loopH P n c k s := loop_intro hm I μ h0 round
theorem seqQ_normal (K : St → Prop) (Q : Exit → St → Prop) : seqQ K Q .normal s = K s := rfl
theorem seqQ_exit (K : St → Prop) (i : Nat) : seqQ K (den P n k) (.exit i) s = goX P n (.exit i) k s := rfl
theorem seqQ_ret (K : St → Prop) : seqQ K (den P n k) .ret s = goX P n .ret k s := rfl
theorem bodyQ_ret (res : List ARes) (K : Value → Mem → Prop) : bodyQ res K .ret s = (match resV s res with
    | some vs => K (oneV vs) s.m
    | none => False) := rfl
theorem bodyQ_normal (res : List ARes) (K : Value → Mem → Prop) : bodyQ res K .normal s = (match resV s res with
    | some vs => K (oneV vs) s.m
    | none => False) := rfl
theorem ev_tmp (i : Nat) : s.ev (.tmp i) = s.t i := rfl
theorem ev_const (v : Value) : s.ev (.const v) = v := rfl
theorem ev_func (f : FuncId) : s.ev (.func f) = .func (.func f) #[] #[] := rfl
theorem put_t (d : Nat) (v : Value) (m' : Mem) (i : Nat) : (s.put (some d) v m').t i = if i = d then v else s.t i := rfl
theorem put_t' (v : Value) (m' : Mem) (i : Nat) : (s.put none v m').t i = s.t i := rfl
theorem put_m (d : Option Nat) (v : Value) (m' : Mem) : (s.put d v m').m = m' := by cases d <;> rfl
theorem putT_t (d : Nat) (v : Value) (i : Nat) : (s.putT (some d) v).t i = if i = d then v else s.t i := rfl
theorem putT_t' (v : Value) (i : Nat) : (s.putT none v).t i = s.t i := rfl
theorem putT_m (d : Option Nat) (v : Value) : (s.putT d v).m = s.m := by cases d <;> rfl
theorem init_t (xs : List Value) (m' : Mem) (i : Nat) : (⟨initT xs, m'⟩ : St).t i = initT xs i := rfl
theorem init_m (xs : List Value) (m' : Mem) : (⟨initT xs, m'⟩ : St).m = m' := rfl
theorem initT_0 (x : Value) (xs : List Value) : initT (x :: xs) 0 = x := rfl
theorem initT_1 (x y : Value) (xs : List Value) : initT (x :: y :: xs) 1 = y := rfl
theorem initT_2 (x y z : Value) (xs : List Value) : initT (x :: y :: z :: xs) 2 = z := rfl
theorem initT_3 (x y z u : Value) (xs : List Value) : initT (x :: y :: z :: u :: xs) 3 = u := rfl
theorem initT_4 (x y z u v : Value) (xs : List Value) : initT (x :: y :: z :: u :: v :: xs) 4 = v := rfl
theorem empty_list (α : Type) : (#[] : Array α).toList = [] := rfl
theorem arr_list {α : Type} (l : List α) : l.toArray.toList = l := rfl
end
section
variable (s : St) (k : Kont) (d : Option Nat) (rs : List ARow)
theorem row_mv (x : Operand) : goR P n (⟨d, .mv x, none⟩ :: rs) k s = goV P n (some (s.ev x)) d rs k s := rfl
theorem row_mkf (f : FuncId) (xs ys : List Operand) : goR P n (⟨d, .mkf f xs ys, none⟩ :: rs) k s = goV P n (some (.func (.func f) (xs.map s.ev).toArray (ys.map s.ev).toArray)) d rs k s := rfl
theorem row_pick (c x y : Operand) : goR P n (⟨d, .pick c x y, none⟩ :: rs) k s = goV P n (pickA (s.ev c) (s.ev x) (s.ev y)) d rs k s := by
  simp only [goR, goV, runL, stepRow, guardOn, step, rdA, pickA]
  cases s.ev c <;> rfl
theorem row_aeq (neg : Bool) (c : Nat) (x y : Operand) : goR P n (⟨d, .aeq neg c x y, none⟩ :: rs) k s = goV P n (aeqA neg c (s.ev x) (s.ev y)) d rs k s := by
  simp only [goR, goV, runL, stepRow, guardOn, step, rdA]
  cases aeqA neg c (s.ev x) (s.ev y) <;> rfl
theorem row_beq (neg : Bool) (x y : Operand) : goR P n (⟨d, .beq neg x y, none⟩ :: rs) k s = goV P n (beqA neg (s.ev x) (s.ev y)) d rs k s := by
  simp only [goR, goV, runL, stepRow, guardOn, step, rdA, beqA]
  cases s.ev x <;> cases s.ev y <;> rfl
theorem row_conv (kd : IntKind) (x : Operand) : goR P n (⟨d, .conv kd x, none⟩ :: rs) k s = goV P n (convA kd (s.ev x)) d rs k s := by
  simp only [goR, goV, runL, stepRow, guardOn, step, rdA, convA]
  cases s.ev x <;> rfl
theorem row_bld (z : List Value) (ps : List (Nat × Nat × Operand)) : goR P n (⟨d, .bld z ps, none⟩ :: rs) k s = goV P n (bldA z (ps.map fun p => (p.1, p.2.1, s.ev p.2.2))) d rs k s := by
  simp only [goR, goV, runL, stepRow, guardOn, step, rdA, bldA]
  cases fillA z (ps.map fun p => (p.1, p.2.1, s.ev p.2.2)) <;> rfl
theorem row_box (e : TypeId) (x : Operand) : goR P n (⟨d, .box e x, none⟩ :: rs) k s = goA P n (some (.pointer (some ⟨s.m.length, 0, none⟩), s.m ++ [⟨.own, e, (s.ev x).cells.toList⟩])) d rs k s := rfl
theorem row_alc (e : TypeId) (z : List Value) : goR P n (⟨d, .alc e z, none⟩ :: rs) k s = goA P n (some (.pointer (some ⟨s.m.length, 0, none⟩), s.m ++ [⟨.own, e, z⟩])) d rs k s := rfl
theorem row_bsl (e sz len : Nat) (z : List Value) (ps : List (Nat × Nat × Operand)) : goR P n (⟨d, .bsl e sz len z ps, none⟩ :: rs) k s = goA P n (bslA s.m e sz len z (ps.map fun p => (p.1, p.2.1, s.ev p.2.2))) d rs k s := by
  simp only [goR, goA, runL, stepRow, guardOn, step, bslA]
  cases fillA z (ps.map fun p => (p.1, p.2.1, s.ev p.2.2)) <;> rfl
theorem row_mks (e byt : Nat) (z : List Value) (l c : Operand) : goR P n (⟨d, .mks e byt z l c, none⟩ :: rs) k s = goA P n (mksA s.m e byt z (s.ev l) (s.ev c)) d rs k s := by
  simp only [goR, goA, runL, stepRow, guardOn, step, mksA]
  cases s.ev l <;> first | rfl | skip
  cases s.ev c <;> first | rfl | skip
  rename_i k1 a k2 b
  simp only []
  by_cases h : 0 ≤ a ∧ a ≤ b ∧ b * byt ≤ 140737488355328 ∧ b ≤ 140737488355328
  · rw [if_pos h]; simp [h]
  · rw [if_neg h]; simp only [h, false_and]
theorem row_st (j : Nat) (p x : Operand) : goR P n (⟨d, .st j p x, none⟩ :: rs) k s = goS P n (stP s.m j (s.ev p) (s.ev x)) d rs k s := by
  simp only [goR, goS, runL, stepRow, guardOn, step, stP]
  generalize s.ev p = q
  generalize s.ev x = y
  cases q with
  | pointer a =>
    cases a with
    | none => rfl
    | some a =>
      obtain ⟨b, o, sp⟩ := a
      cases sp with
      | none =>
        simp only []
        by_cases h : y.cells.size = j
        · simp only [h, if_true]
          try (cases stA s.m b o y.cells.toList <;> rfl)
        · simp only [h, if_false]
      | some _ => rfl
  | _ => rfl
theorem row_app (e sz byt : Nat) (y x : Operand) : goR P n (⟨d, .app e sz byt y x, none⟩ :: rs) k s = goA P n (appP s.m e sz byt (s.ev y) (s.ev x)) d rs k s := by
  simp only [goR, goA, runL, stepRow, guardOn, step, appP]
  cases slR s.m sz (s.ev x) with
  | none => rfl
  | some xs =>
    by_cases h : onesB xs = true
    · simp only [h, true_and, if_true]
      try (cases appA s.m e sz byt (s.ev y) xs (lenOfA (s.ev x)) <;> rfl)
    · simp [h]
theorem row_cpy (sz : Nat) (y x : Operand) : goR P n (⟨d, .cpy sz y x, none⟩ :: rs) k s = goA P n (cpyA s.m sz (s.ev y) (s.ev x)) d rs k s := by
  simp only [goR, goA, runL, stepRow, guardOn, step]
  try (cases cpyA s.m sz (s.ev y) (s.ev x) <;> rfl)
theorem row_apz (e byt : Nat) (z : List Value) (y x : Operand) : goR P n (⟨d, .apz e byt z y x, none⟩ :: rs) k s = goA P n (apzA s.m e byt z (s.ev y) (s.ev x)) d rs k s := by
  simp only [goR, goA, runL, stepRow, guardOn, step]
  try (cases apzA s.m e byt z (s.ev y) (s.ev x) <;> rfl)
theorem row_mkm (e : TypeId) : goR P n (⟨d, .mkm e, none⟩ :: rs) k s = goR P n rs k (s.put d (.map (some s.m.length)) (s.m ++ [⟨.dead, e, [.bool true]⟩])) := rfl
theorem row_mup (mo kk x : Operand) : goR P n (⟨d, .mup mo kk x, none⟩ :: rs) k s = goS P n (mupA s.m (s.ev mo) (s.ev kk) (s.ev x)) d rs k s := by
  simp only [goR, goS, runL, stepRow, guardOn, step]
  try (cases mupA s.m (s.ev mo) (s.ev kk) (s.ev x) <;> rfl)
theorem row_lkp (ok : Bool) (z : Value) (mo kk : Operand) : goR P n (⟨d, .lkp ok z mo kk, none⟩ :: rs) k s = goV P n (lkA s.m ok z (s.ev mo) (s.ev kk)) d rs k s := by
  simp only [goR, goV, runL, stepRow, guardOn, step]
  try (cases lkA s.m ok z (s.ev mo) (s.ev kk) <;> rfl)
theorem row_mmx (mx : Bool) (x y : Operand) : goR P n (⟨d, .mmx mx x y, none⟩ :: rs) k s = goV P n (mmA mx (s.ev x) (s.ev y)) d rs k s := by
  simp only [goR, goV, runL, stepRow, guardOn, step, rdA]
  cases mmA mx (s.ev x) (s.ev y) <;> rfl
theorem row_call (f : Operand) (args : List Operand) : goR P n (⟨d, .call f args, none⟩ :: rs) k s = callV P n (s.ev f) (args.map s.ev) d rs k s := rfl
theorem row_rcall (f : Operand) (args : List Operand) : goR P n (⟨d, .rcall f args, none⟩ :: rs) k s = rcallV P n (s.ev f) (args.map s.ev) d rs k s := rfl
theorem row_inv (x : Operand) (name : String) (args : List Operand) : goR P n (⟨d, .inv x name args, none⟩ :: rs) k s = invV P n (invA P name (s.ev x)) (args.map s.ev) d rs k s := by
  simp only [goR, invV, runL, stepRow, guardOn, step]
  cases invA P name (s.ev x) <;> rfl
theorem invV_some (f : FuncId) (r : Value) (args : List Value) : invV P n (some (f, r)) args d rs k s = rcallH P n f (r :: args) s.m d rs k s := rfl
theorem row_sln (neg : Bool) (x : Operand) : goR P n (⟨d, .sln neg x, none⟩ :: rs) k s = goV P n (slnA neg (s.ev x)) d rs k s := by
  simp only [goR, goV, runL, stepRow, guardOn, step, rdA]
  cases slnA neg (s.ev x) <;> rfl
theorem row_ptn (neg : Bool) (x : Operand) : goR P n (⟨d, .ptn neg x, none⟩ :: rs) k s = goV P n (ptnA neg (s.ev x)) d rs k s := by
  simp only [goR, goV, runL, stepRow, guardOn, step, rdA]
  cases ptnA neg (s.ev x) <;> rfl
theorem row_cpz (x : Operand) : goR P n (⟨d, .cpz x, none⟩ :: rs) k s = goV P n (cpzA (s.ev x)) d rs k s := by
  simp only [goR, goV, runL, stepRow, guardOn, step, rdA]
  try (cases cpzA (s.ev x) <;> rfl)
theorem cpzA_nil : cpzA (.slice none 0 0) = some (.int .i64 0) := rfl
theorem ptnA_nil (neg : Bool) : ptnA neg (.pointer none) = some (.bool (!neg)) := rfl
theorem ptnA_some (neg : Bool) (a : Addr) : ptnA neg (.pointer (some a)) = some (.bool neg) := rfl
theorem row_clr (z : List Value) (x : Operand) : goR P n (⟨d, .clr z x, none⟩ :: rs) k s = goS P n (clrA s.m z (s.ev x)) d rs k s := by
  simp only [goR, goS, runL, stepRow, guardOn, step]
  try (cases clrA s.m z (s.ev x) <;> rfl)
theorem row_mif (t : TypeId) (x : Operand) : goR P n (⟨d, .mif t x, none⟩ :: rs) k s = goR P n rs k (s.putT d (.iface t (s.ev x))) := rfl
theorem row_bin (op : BinOp) (x y : Operand) : goR P n (⟨d, .bin op x y, none⟩ :: rs) k s = goV P n (binA op (s.ev x) (s.ev y)) d rs k s := by
  simp only [goR, goV, runL, stepRow, guardOn, step, rdA]
  cases binA op (s.ev x) (s.ev y) <;> rfl
theorem row_un (op : UnOp) (x : Operand) : goR P n (⟨d, .un op x, none⟩ :: rs) k s = goV P n (unA op (s.ev x)) d rs k s := by
  simp only [goR, goV, runL, stepRow, guardOn, step, rdA]
  cases unA op (s.ev x) <;> rfl
theorem row_ld (j : Option Nat) (x : Operand) : goR P n (⟨d, .ld j x, none⟩ :: rs) k s = goV P n (ldA s.m j (s.ev x)) d rs k s := by
  simp only [goR, goV, runL, stepRow, guardOn, step, rdA]
  cases ldA s.m j (s.ev x) <;> rfl
theorem row_fld (o : Nat) (j : Option Nat) (x : Operand) : goR P n (⟨d, .fld o j x, none⟩ :: rs) k s = goV P n (fldA o j (s.ev x)) d rs k s := by
  simp only [goR, goV, runL, stepRow, guardOn, step, rdA]
  cases fldA o j (s.ev x) <;> rfl
theorem row_fad (o : Nat) (x : Operand) : goR P n (⟨d, .fad o x, none⟩ :: rs) k s = goV P n (fadA o (s.ev x)) d rs k s := by
  simp only [goR, goV, runL, stepRow, guardOn, step, rdA]
  cases fadA o (s.ev x) <;> rfl
theorem row_iad (o : Nat) (x i : Operand) : goR P n (⟨d, .iad o x i, none⟩ :: rs) k s = goV P n (iadA o (s.ev x) (s.ev i)) d rs k s := by
  simp only [goR, goV, runL, stepRow, guardOn, step, rdA]
  cases iadA o (s.ev x) (s.ev i) <;> rfl
theorem row_iada (o l : Nat) (x i : Operand) : goR P n (⟨d, .iada o l x i, none⟩ :: rs) k s = goV P n (iadaA o l (s.ev x) (s.ev i)) d rs k s := by
  simp only [goR, goV, runL, stepRow, guardOn, step, rdA]
  cases iadaA o l (s.ev x) (s.ev i) <;> rfl
theorem row_idxs (x i : Operand) : goR P n (⟨d, .idxs x i, none⟩ :: rs) k s = goV P n (idxsA (s.ev x) (s.ev i)) d rs k s := by
  simp only [goR, goV, runL, stepRow, guardOn, step, rdA]
  cases idxsA (s.ev x) (s.ev i) <;> rfl
theorem row_idxa (o l : Nat) (j : Option Nat) (x i : Operand) : goR P n (⟨d, .idxa o l j x i, none⟩ :: rs) k s = goV P n (idxaA o l j (s.ev x) (s.ev i)) d rs k s := by
  simp only [goR, goV, runL, stepRow, guardOn, step, rdA]
  cases idxaA o l j (s.ev x) (s.ev i) <;> rfl
theorem row_slc (o : Nat) (x : Operand) (lo hi : Option Operand) : goR P n (⟨d, .slc o x lo hi, none⟩ :: rs) k s = goV P n (slcA o (s.ev x) (lo.map s.ev) (hi.map s.ev)) d rs k s := by
  simp only [goR, goV, runL, stepRow, guardOn, step, rdA]
  cases slcA o (s.ev x) (lo.map s.ev) (hi.map s.ev) <;> rfl
theorem row_slcs (x : Operand) (lo hi : Option Operand) : goR P n (⟨d, .slcs x lo hi, none⟩ :: rs) k s = goV P n (slcsA (s.ev x) (lo.map s.ev) (hi.map s.ev)) d rs k s := by
  simp only [goR, goV, runL, stepRow, guardOn, step, rdA]
  cases slcsA (s.ev x) (lo.map s.ev) (hi.map s.ev) <;> rfl
theorem row_slcp (o l : Nat) (x : Operand) (lo hi : Option Operand) : goR P n (⟨d, .slcp o l x lo hi, none⟩ :: rs) k s = goV P n (slcpA o l (s.ev x) (lo.map s.ev) (hi.map s.ev)) d rs k s := by
  simp only [goR, goV, runL, stepRow, guardOn, step, rdA]
  cases slcpA o l (s.ev x) (lo.map s.ev) (hi.map s.ev) <;> rfl
theorem row_len (x : Operand) : goR P n (⟨d, .len x, none⟩ :: rs) k s = goV P n (lenA (s.ev x)) d rs k s := by
  simp only [goR, goV, runL, stepRow, guardOn, step, rdA]
  cases lenA (s.ev x) <;> rfl
theorem row_lens (x : Operand) : goR P n (⟨d, .lens x, none⟩ :: rs) k s = goV P n (lensA (s.ev x)) d rs k s := by
  simp only [goR, goV, runL, stepRow, guardOn, step, rdA]
  cases lensA (s.ev x) <;> rfl
theorem row_ext (i : Nat) (x : Operand) : goR P n (⟨d, .ext i x, none⟩ :: rs) k s = goV P n (extA i (s.ev x)) d rs k s := by
  simp only [goR, goV, runL, stepRow, guardOn, step, rdA]
  cases extA i (s.ev x) <;> rfl
theorem row_nilc (x : Operand) : goR P n (⟨d, .nilc x, none⟩ :: rs) k s = goV P n (nilcA (s.ev x)) d rs k s := by
  simp only [goR, goV, runL, stepRow, guardOn, step, rdA]
  cases nilcA (s.ev x) <;> rfl
end
/-! Memory that grows at its end. -/
theorem rdc_last (m : Mem) (b : Blk) (k : Nat) : rdc (m ++ [b]) m.length k = if b.kd = .dead then none else b.cs[k]? := by unfold rdc; simp
theorem rdc_lastH {m : Mem} {b : Blk} {id k : Nat} (h : id = m.length) : rdc (m ++ [b]) id k = if b.kd = .dead then none else b.cs[k]? := by rw [h]; exact rdc_last m b k
theorem ld1 {m : Mem} {id off : Nat} : ldA m none (.pointer (some ⟨id, off, none⟩)) = rdc m id off := rfl
def aggO : Option (List Value) → Option Value
  | some xs => some (.agg xs.toArray)
  | none => none
def consO : Option Value → Option (List Value) → Option (List Value)
  | some x, some xs => some (x :: xs)
  | _, _ => none
theorem aggO_some (xs : List Value) : aggO (some xs) = some (.agg xs.toArray) := rfl
theorem consO_some (x : Value) (xs : List Value) : consO (some x) (some xs) = some (x :: xs) := rfl
theorem ldn {m : Mem} {id off k : Nat} : ldA m (some k) (.pointer (some ⟨id, off, none⟩)) = aggO (rdn m id off k) := by
  simp only [ldA]; cases rdn m id off k <;> rfl
theorem rdn_0 (m : Mem) (id off : Nat) : rdn m id off 0 = some [] := rfl
theorem rdn_s (m : Mem) (id off k : Nat) : rdn m id off (k + 1) = consO (rdc m id off) (rdn m id (off + 1) k) := by
  simp only [rdn]; cases rdc m id off <;> cases rdn m id (off + 1) k <;> rfl
theorem rdn_1 (m : Mem) (id off : Nat) : rdn m id off 1 = consO (rdc m id off) (rdn m id (off + 1) 0) := rdn_s m id off 0
theorem rdn_2 (m : Mem) (id off : Nat) : rdn m id off 2 = consO (rdc m id off) (rdn m id (off + 1) 1) := rdn_s m id off 1
theorem rdn_3 (m : Mem) (id off : Nat) : rdn m id off 3 = consO (rdc m id off) (rdn m id (off + 1) 2) := rdn_s m id off 2
theorem rdn_4 (m : Mem) (id off : Nat) : rdn m id off 4 = consO (rdc m id off) (rdn m id (off + 1) 3) := rdn_s m id off 3
theorem rdn_5 (m : Mem) (id off : Nat) : rdn m id off 5 = consO (rdc m id off) (rdn m id (off + 1) 4) := rdn_s m id off 4
theorem rdn_6 (m : Mem) (id off : Nat) : rdn m id off 6 = consO (rdc m id off) (rdn m id (off + 1) 5) := rdn_s m id off 5
theorem rdn_7 (m : Mem) (id off : Nat) : rdn m id off 7 = consO (rdc m id off) (rdn m id (off + 1) 6) := rdn_s m id off 6
theorem rdn_8 (m : Mem) (id off : Nat) : rdn m id off 8 = consO (rdc m id off) (rdn m id (off + 1) 7) := rdn_s m id off 7
theorem fad1 (id o off : Nat) : fadA off (.pointer (some ⟨id, o, none⟩)) = some (.pointer (some ⟨id, o + off, none⟩)) := rfl
theorem cells_agg (cs : Array Value) : (Value.agg cs).cells = cs := rfl
theorem cells_sl (a : Option Addr) (k c : Nat) : (Value.slice a k c).cells = #[.slice a k c] := rfl
theorem cells_int (k : IntKind) (x : Int) : (Value.int k x).cells = #[.int k x] := rfl
theorem cells_bool (b : Bool) : (Value.bool b).cells = #[.bool b] := rfl
theorem cells_ptr (a : Option Addr) : (Value.pointer a).cells = #[.pointer a] := rfl
theorem cells_str (a : ByteArray) : (Value.string a).cells = #[.string a] := rfl
theorem cells_fn (f : Fn) (a b : Array Value) : (Value.func f a b).cells = #[.func f a b] := rfl
theorem stA_new {m : Mem} {e : TypeId} {cs : List Value} {off : Nat} {v : Value} (h : off < cs.length) (h1 : v.oneCell' = true) : stA (m ++ [⟨.own, e, cs⟩]) m.length off [v] = some (m ++ [⟨.own, e, cs.set off v⟩]) := by
  unfold stA
  simp [onesB, h1, putL]
  omega
theorem stA_at {m : Mem} {id off : Nat} {e : TypeId} {cs : List Value} {v : Value} (hm : m[id]? = some ⟨.own, e, cs⟩) (h : off < cs.length) (h1 : v.oneCell' = true) : stA m id off [v] = some (m.set id ⟨.own, e, cs.set off v⟩) := by
  unfold stA
  simp [hm, onesB, h1, putL]
  omega
theorem stA_left {m new : Mem} {id off : Nat} {vs : List Value} (h : id < m.length) : stA (m ++ new) id off vs = (stA m id off vs).map (· ++ new) := by
  unfold stA
  rw [List.getElem?_append_left h]
  cases m[id]? with
  | none => rfl
  | some b =>
    by_cases hc : b.kd = .own ∧ off + vs.length ≤ b.cs.length ∧ onesB vs = true
    · simp only [hc, and_self, if_true, Option.map_some, List.set_append_left _ _ h]
    · simp only [hc, if_false, Option.map_none]
theorem stA_lastH {m : Mem} {e : TypeId} {cs vs : List Value} {id off : Nat} (h : id = m.length) : stA (m ++ [⟨.own, e, cs⟩]) id off vs = if off + vs.length ≤ cs.length ∧ onesB vs = true then some (m ++ [⟨.own, e, putL cs off vs⟩]) else none := by
  rw [h]; unfold stA; simp
theorem onesB_sl (a : Option Addr) (l c : Nat) (vs : List Value) : onesB (.slice a l c :: vs) = onesB vs := rfl
theorem onesB_int (k : IntKind) (x : Int) (vs : List Value) : onesB (.int k x :: vs) = onesB vs := rfl
theorem onesB_bool (x : Bool) (vs : List Value) : onesB (.bool x :: vs) = onesB vs := rfl
theorem onesB_str (x : ByteArray) (vs : List Value) : onesB (.string x :: vs) = onesB vs := rfl
theorem onesB_ptr (x : Option Addr) (vs : List Value) : onesB (.pointer x :: vs) = onesB vs := rfl
theorem onesB_map (r : Option Nat) (vs : List Value) : onesB (.map r :: vs) = onesB vs := rfl
theorem onesB_fn (f : Fn) (a b : Array Value) (vs : List Value) : onesB (.func f a b :: vs) = onesB vs := rfl
theorem onesB_nil : onesB [] = true := rfl
theorem onesB_ints (l : List Int) : onesB (l.map (Value.int .i64)) = true := by simp [onesB, Value.oneCell']
theorem stP_aggL (m : Mem) (j id off : Nat) (l : List Value) : stP m j (.pointer (some ⟨id, off, none⟩)) (.agg l.toArray) = if l.length = j then stA m id off l else none := by
  simp [stP, Value.cells]
theorem iadA_in {id off n fl sz : Nat} {k : IntKind} {j : Nat} (h : j < n) : iadA sz (.slice (some ⟨id, off, none⟩) n fl) (.int k (j : Int)) = some (.pointer (some ⟨id, off + j * sz, none⟩)) := by
  simp only [iadA, Int.toNat_natCast]; rw [if_pos (by omega)]
theorem mksA_nat (m : Mem) (e byt n : Nat) (z : Value) (h : (n : Int) * byt ≤ 140737488355328 ∧ n ≤ 140737488355328) :
    mksA m e byt [z] (.int .i64 n) (.int .i64 n) = some (.slice (some ⟨m.length, 0, none⟩) n 1, m ++ [⟨.own, e, List.replicate n z⟩]) := by
  unfold mksA
  simp only []
  rw [if_pos (by omega), repL_one]
  simp
theorem mksA_many (m : Mem) (e byt n : Nat) (z : List Value) (h : (n : Int) * byt ≤ 140737488355328 ∧ n ≤ 140737488355328) :
    mksA m e byt z (.int .i64 n) (.int .i64 n) = some (.slice (some ⟨m.length, 0, none⟩) n z.length, m ++ [⟨.own, e, repL n z⟩]) := by
  unfold mksA
  simp only []
  rw [if_pos (by omega)]
  simp
theorem newQ_nil {m : Mem} {K : Value → Mem → Prop} {v : Value} (h : K v []) : newQ m K v (roM m) := ⟨[], by simp, by simp [NoRo], h⟩
theorem newQ_own {m : Mem} {K : Value → Mem → Prop} {v : Value} {e : TypeId} {cs : List Value} (h : K v [⟨.own, e, cs⟩]) : newQ m K v (roM m ++ [⟨.own, e, cs⟩]) := ⟨_, rfl, by simp [NoRo], h⟩
theorem noRo_nil : NoRo [] := fun _ h => by cases h
theorem noRo_own {e : TypeId} {cs : List Value} {l : Mem} (h : NoRo l) : NoRo (⟨.own, e, cs⟩ :: l) := fun b hb => by
  rcases List.mem_cons.1 hb with rfl | hb
  · simp
  · exact h b hb
theorem noRo_dead {l : Mem} (h : NoRo l) : NoRo (deadB :: l) := fun b hb => by
  rcases List.mem_cons.1 hb with rfl | hb
  · simp [deadB]
  · exact h b hb
theorem noRo_app {l l' : Mem} (h : NoRo l) (h' : NoRo l') : NoRo (l ++ l') := fun b hb => by
  rcases List.mem_append.1 hb with hb | hb
  · exact h b hb
  · exact h' b hb
/-! Ranges over functions. -/
/-- The loop's variables take what the iterator hands over. -/
def setT : (Nat → Value) → List Nat → List Value → Nat → Value
  | t, i :: is, v :: vs => setT (upd t i v) is vs
  | t, _, _ => t
theorem set_rel : ∀ (is : List Nat) (vs us : List Value) (t : Nat → Value) (T : Array Value), VL ρ vs us → T.size = n → (∀ i, i < n → VR ρ (t i) (T.getD i undef)) →
    ((is.zip us).foldl (fun (T : Array Value) (p : Nat × Value) => T.setIfInBounds p.1 p.2) T).size = n ∧
      ∀ i, i < n → VR ρ (setT t is vs i) (((is.zip us).foldl (fun (T : Array Value) (p : Nat × Value) => T.setIfInBounds p.1 p.2) T).getD i undef) := by
  intro is
  induction is with
  | nil => intro vs us t T _ hT h; exact ⟨hT, by cases vs <;> exact h⟩
  | cons j is ih =>
    intro vs us t T hv hT h
    cases vs with
    | nil =>
      have : us = [] := List.eq_nil_of_length_eq_zero (by rw [← hv.1]; rfl)
      subst this
      exact ⟨hT, h⟩
    | cons v vs =>
      cases us with
      | nil => exact absurd hv.1 (by simp)
      | cons u us =>
        have h0 : VR ρ v u := hv.2 0 v u rfl rfl
        have ht : VL ρ vs us := ⟨by have := hv.1; simpa using this, fun i x y ha hb => hv.2 (i + 1) x y (by simpa using ha) (by simpa using hb)⟩
        refine ih vs us (upd t j v) (T.setIfInBounds j u) ht (by simpa using hT) fun i hi => ?_
        unfold upd
        by_cases e : i = j
        · subst e
          rw [if_pos rfl]
          simpa [Array.getD_eq_getD_getElem?, hT, hi] using h0
        · rw [if_neg e]
          have : (T.setIfInBounds j u).getD i undef = T.getD i undef := by simp [Array.getD_eq_getD_getElem?, Ne.symm e]
          rw [this]
          exact h i hi
/-- What a function that is ranged over does: it hands over enc 0, .. enc (N - 1), as long as it is told to go on, and returns. J says what the memory is then, which it may read in between. -/
def Iter (P : Program) (gf : FuncId) (caps : List Value) (N : Nat) (enc : Nat → List Value) (J : Nat → Mem → Prop) : Prop :=
  (∃ fn, P.funcs[gf]? = some fn ∧ (fn.name == "runtime.NumGoroutine") = false ∧ fn.body.isNone = false) ∧
  ∀ (base : Nat) (ρ : Places) (lb : List Value), VL ρ caps lb → ∀ (l : Nat) (J' : Nat → World → Prop), (∀ k W W', J' k W → W.grownBy W' none → J' k W') →
    (∀ k W, J' k W → ∃ W0 ρ' m', J k m' ∧ ρ <+: ρ' ∧ MRel W0 base ρ' m' W) →
    (∀ k W, k < N → J' k W → ∀ args : List Value, VL ρ (enc k) args → ∃ (fn : FuncId) (T : Array Value) (X Y : Code), (Instr.yield l args.toArray).run P W = .ok (.round l fn T X Y) W ∧ RoundIn Fence.wide 0 P l fn T X Y W fun e W' => e = .returned (.bool true) ∧ J' (k + 1) W') →
    ∀ W, J' 0 W → CallsIn Fence.wide 0 P gf (#[.func (.yield l) #[] #[]] ++ lb.toArray) W fun e W' => (∃ v, e = .returned v) ∧ J' N W'
/-- The record of a loop. -/
def recOf (fn : FuncId) (T : Array Value) (ps : Array Nat) (X Y : Code) (df : Nat) : Loop := { state := .ready, pending := none, fn, tmps := T, params := ps, assign := X, body := Y, defers := df }
theorem enter_run {r0 : Option Nat} (h : InRound r0 w) (fn : FuncId) (T : Array Value) (ps : Array Nat) (X Y : Code) : ∃ (L : List Nat) (Wb : World) (df : Nat),
    (Instr.enterLoop fn T ps X Y r0).run P w = .ok (Wb.heap.size, L.map markOf) (Wb.alloc (.loop (recOf fn T ps X Y df))) ∧ w.grownBy Wb none ∧ L.Nodup ∧ ∀ D ∈ L, w.heap.size ≤ D ∧ Wb.heap[D]? = some (.deferred (some [])) := by
  cases r0 with
  | none =>
    refine ⟨[w.heap.size], w.alloc (.deferred (some [])), w.heap.size, ?_, World.grownBy_alloc w _ none, by simp, ?_⟩
    · rw [run_enterLoop_outer]; simp [recOf, markOf]
    · intro D hD
      rw [List.mem_singleton] at hD
      subst hD
      exact ⟨Nat.le_refl _, World.alloc_heap_new w _⟩
  | some l =>
    obtain ⟨r, hr⟩ := h l rfl
    refine ⟨[], w, r.defers, ?_, ⟨rfl, rfl, rfl, Nat.le_refl _, fun _ _ _ => rfl⟩, .nil, fun D hD => by cases hD⟩
    simp only [Instr.enterLoop, Sem.run_bind, run_getLoop hr, run_newObj_alloc, Result.andThen_ok, Sem.run_pure, List.map_nil, recOf]
theorem range_intro (hm : P.follows .mixedOrders = true) {g : Operand} {ps : List Nat} {cx cy : ACode} {Q : Exit → St → Prop} {gf : FuncId} {caps : Array Value} (hg : s.ev g = .func (.func gf) #[] caps)
    (N : Nat) (enc : Nat → List Value) (J : Nat → Mem → Prop) (hit : Iter P gf caps.toList N enc J) (hlen : ∀ k, (enc k).length = ps.length) (h0 : J 0 s.m)
    (round : ∀ k m, k < N → J k m → runC P n (.seq cx cy) (fun e s' => e = .normal ∧ J (k + 1) s'.m) ⟨setT s.t ps (enc k), m⟩)
    (done : ∀ m, J N m → Q .normal ⟨s.t, m⟩) : RangeA P n g ps cx cy Q s := by
  intro X Y qs hX hY hok hqs _ r0 fu lw W0 base ρ a w hr0 hs
  subst hqs
  obtain ⟨⟨fn0, hfn0, hname, hbody⟩, hcall⟩ := hit
  have hgv := hs.ev hok
  rw [hg] at hgv
  obtain ⟨lb, hge, hvl⟩ : ∃ lb : List Value, a.eval g = .func (.func gf) #[] lb.toArray ∧ VL ρ caps.toList lb := by
    generalize a.eval g = y at hgv
    cases hgv with
    | @fn _ _ _ c d h1 h2 h3 h4 =>
      refine ⟨d.toList, ?_, VL.of_arr h2 h4⟩
      have : c = #[] := Array.eq_empty_of_size_eq_zero (by rw [← h1]; rfl)
      rw [this]
  have hrw : InRound r0 w := hr0.on hs.mem.reb
  refine wpIn_rangeFunc ?_
  intro fn _
  obtain ⟨L, Wb, df, hent, hgb, hnd, hL⟩ := enter_run (P := P) hrw fn a.tmps qs X Y
  obtain ⟨l, hl⟩ : ∃ l, l = Wb.heap.size := ⟨_, rfl⟩
  obtain ⟨R, hR⟩ : ∃ R : Loop, R = recOf fn a.tmps qs X Y df := ⟨_, rfl⟩
  rw [← hR, ← hl] at hent
  have hmb : MRel W0 base ρ s.m Wb := hs.mem.grown hgb
  have hbl : base ≤ l := by rw [hl]; exact hmb.le
  have hm1 : MRel Wb base ρ s.m (Wb.alloc (.loop R)) := hmb.now.grown (World.grownBy_alloc Wb _ none)
  have hl1 : (Wb.alloc (.loop R)).heap[l]? = some (.loop R) := by rw [hl]; exact World.alloc_heap_new Wb _
  have hRf : R.state = .ready ∧ R.pending = none := by rw [hR]; exact ⟨rfl, rfl⟩
  refine ⟨l, L.map markOf, Wb.alloc (.loop R), { target := .fn (.func gf) lb.toArray, args := #[.func (.yield l) #[] #[]] }, Wb.alloc (.loop R), gf, #[.func (.yield l) #[] #[]] ++ lb.toArray, Wb.alloc (.loop R), hent, ?_, fun _ _ => trivial, ?_, fun hd => (by cases hd), ?_⟩
  · simp only [resolve, hge]
    simp [go_sem]
  · simp only [invoke, Sem.run_bind, Sem.run_pure, Result.andThen_ok, callFunc, program, Sem.run, hfn0, hname, hbody, Bool.false_eq_true, if_false]
  · have key := hcall base ρ lb hvl l (fun k W => (∃ m' ρ', J k m' ∧ ρ <+: ρ' ∧ MRel Wb base ρ' m' W) ∧ W.heap[l]? = some (.loop R))
      (fun k W W' ⟨⟨m', ρ', h1, h2, h3⟩, h4⟩ hgr => ⟨⟨m', ρ', h1, h2, h3.grown hgr⟩, (hgr.block l (Array.getElem?_eq_some_iff.1 h4).1 (by simp)).trans h4⟩)
      (fun k W ⟨⟨m', ρ', h1, h2, h3⟩, _⟩ => ⟨Wb, ρ', m', h1, h2, h3⟩)
      ?_ _ ⟨⟨s.m, ρ, h0, List.prefix_refl _, hm1⟩, hl1⟩
    · refine (show CallsIn (fen r0) (fu - 1) P gf _ _ _ from fen_calls (callsIn_wide.1 key)).mono ?_
      rintro e W5 ⟨⟨v, rfl⟩, ⟨m', ρ', hj, hp, hm5⟩, hl5⟩
      refine ⟨none, W5.putObj l (.loop { R with state := .exhausted }), ?_, ?_⟩
      · rw [run_endLoop hl5 (by rw [hRf.1]; simp), hRf.2]
      · have hm6 : MRel Wb base ρ' m' (W5.putObj l (.loop { R with state := .exhausted })) := hm5.obj _ hl5 rfl (by omega) hbl
        refine ⟨⟨s.t, m'⟩, ρ', _, done m' hj, hp, hmb.reb.trans hm6.reb, hm6.now, ?_, hs.size, fun i hi => (hs.tmps i hi).mono hp⟩
        obtain ⟨q1, L0, q2, q3, q4⟩ := hs.defers
        have hsz : W0.heap.size ≤ w.heap.size := hs.mem.below.size
        have hwb : w.heap.size ≤ Wb.heap.size := hgb.size
        have keepD : ∀ D, Wb.heap[D]? = some (Obj.deferred (some [])) → (W5.putObj l (.loop { R with state := .exhausted })).heap[D]? = some (Obj.deferred (some [])) := fun D hD => hm6.oth D _ hD rfl
        refine ⟨Nat.le_trans q1 (Nat.le_trans hmb.below.size hm6.below.size), L ++ L0, by show _ ++ a.defers = _; rw [q2, List.map_append], ?_, ?_⟩
        · rw [List.nodup_append]
          refine ⟨hnd, q3, fun x hx y hy e => ?_⟩
          subst e
          have h1 := (hL x hx).1
          have h2 := (Array.getElem?_eq_some_iff.1 (q4 x hy).2.2).1
          omega
        · intro D hD
          rcases List.mem_append.1 hD with hD | hD
          · obtain ⟨d1, d2⟩ := hL D hD
            have := hs.mem.le
            exact ⟨by omega, by omega, keepD D d2⟩
          · obtain ⟨d1, d2, d3⟩ := q4 D hD
            exact ⟨d1, d2, keepD D (hmb.oth D _ d3 rfl)⟩
    · rintro k W hk ⟨⟨m', ρ', hj, hp, hmW⟩, hlW⟩ args hargs
      have hargl : args.toArray.size = R.params.size := by
        have h1 := hargs.1
        have h2 := hlen k
        rw [hR]
        simp only [recOf, List.size_toArray]
        simpa using (h1.symm.trans h2)
      have hy := run_yield (P := P) (args := args.toArray) hlW hargl
      refine ⟨_, _, _, _, hy, ?_⟩
      have hRa : R.assign = X ∧ R.body = Y ∧ R.tmps = a.tmps ∧ R.params = qs := by rw [hR]; exact ⟨rfl, rfl, rfl, rfl⟩
      rw [hRa.1, hRa.2.1, hRa.2.2.1, hRa.2.2.2]
      refine roundIn_of_wpIn (F := Fence.wide) trivial ?_
      obtain ⟨T, hT⟩ : ∃ T : Array Value, T = (qs.zip args.toArray).foldl (fun tmps (t, a) => tmps.setIfInBounds t a) a.tmps := ⟨_, rfl⟩
      rw [← hT]
      have hTl : T = (qs.toList.zip args).foldl (fun (T : Array Value) (p : Nat × Value) => T.setIfInBounds p.1 p.2) a.tmps := by
        rw [hT, ← Array.foldl_toList, Array.toList_zip]
      have hrel := set_rel (ρ := ρ) qs.toList (enc k) args s.t a.tmps hargs hs.size hs.tmps
      rw [← hTl] at hrel
      have hsr : SRel W.heap.size W base ρ' n ⟨setT s.t qs.toList (enc k), m'⟩ { tmps := T, defers := [] } W :=
        ⟨hmW.now, ⟨Nat.le_refl _, [], rfl, .nil, fun _ h => by cases h⟩, hrel.1, fun i hi => (hrel.2 i hi).mono hp⟩
      have hrd := round k m' hk hj
      simp only [runC] at hrd
      refine Code.wpIn_mono ?_ (run_sound hm X cx _ _ hX hrd (some l) 0 _ W base ρ' _ W (fun l' hl' => by cases hl'; exact ⟨R, hlW⟩) hsr)
      rintro e a1 w1 ⟨s1, ρ1, W1, hk1, hp1, hrb1, hs1⟩
      cases e with
      | normal =>
        have hl2 : w1.heap[l]? = some (.loop R) := hs1.mem.oth l _ (hrb1.2 l _ hlW rfl) rfl
        refine ⟨_, run_beginRound hl2 hRf.1, ?_⟩
        have hmw1 : MRel Wb base ρ1 s1.m w1 := hs1.mem.from (hmW.reb.trans hrb1)
        have hm2 := hmw1.obj (.loop { R with state := .busy }) hl2 rfl (by omega) hbl
        have hl3 : (w1.putObj l (.loop { R with state := .busy })).heap[l]? = some (.loop { R with state := .busy }) := World.putObj_heap_same (Array.getElem?_eq_some_iff.1 hl2).1
        obtain ⟨w2, hw2⟩ : ∃ w2, w2 = w1.putObj l (.loop { R with state := .busy }) := ⟨_, rfl⟩
        have hdf : Marks W.heap.size w2 base a1.defers := by
          obtain ⟨q1, L1, q2, q3, q4⟩ := hs1.defers
          have hz : w2.heap.size = w1.heap.size := by rw [hw2]; simp
          have hz2 := hs1.mem.below.size
          refine ⟨by omega, L1, q2, q3, fun D hD => ?_⟩
          obtain ⟨d1, d2, d3⟩ := q4 D hD
          have d4 := hs1.mem.oth D _ d3 rfl
          refine ⟨d1, d2, ?_⟩
          rw [hw2, World.putObj_heap_other (fun e => by subst e; rw [hl2] at d4; cases d4)]
          exact d4
        rw [← hw2] at hm2 hl3 ⊢
        have hsr2 : SRel W.heap.size w2 base ρ1 n s1 a1 w2 := ⟨hm2.now, hdf, hs1.size, hs1.tmps⟩
        refine Code.wpIn_mono ?_ (run_sound hm Y cy _ _ hY hk1 (some l) 0 _ w2 base ρ1 _ w2 (fun l' hl' => by cases hl'; exact ⟨_, hl3⟩) hsr2)
        rintro e a3 w3 ⟨s3, ρ3, W3, ⟨he, hj3⟩, hp3, hrb3, hs3⟩
        subst he
        have hl4 : w3.heap[l]? = some (.loop { R with state := .busy }) := hs3.mem.oth l _ (hrb3.2 l _ hl3 rfl) rfl
        refine ⟨_, _, run_endRound none hl4, rfl, ?_⟩
        have hm4 : MRel Wb base ρ3 s3.m w3 := hs3.mem.from (hm2.reb.trans hrb3)
        have hRe : ({ ({ R with state := .busy } : Loop) with state := .ready, pending := none } : Loop) = R := by rw [hR]; rfl
        refine ⟨⟨s3.m, ρ3, hj3, hp.trans (hp1.trans hp3), hm4.obj _ hl4 rfl (by omega) hbl⟩, ?_⟩
        refine (World.putObj_heap_same (Array.getElem?_eq_some_iff.1 hl4).1).trans ?_
        simp only [Option.isNone_none, if_true, hRe]
      | _ => exact absurd hk1.1 (by simp)
theorem range_run (hm : P.follows .mixedOrders = true) {g : Operand} {ps : List Nat} {cx cy : ACode} {k : Kont} {v : Value} {gf : FuncId} {caps : Array Value} (hg : s.ev g = .func (.func gf) #[] caps)
    (N : Nat) (enc : Nat → List Value) (J : Nat → Mem → Prop) (hit : Iter P gf caps.toList N enc J) (hlen : ∀ k, (enc k).length = ps.length) (h0 : J 0 s.m)
    (round : ∀ i m, i < N → J i m → goC P n (.seq cx cy) (.done fun e s' => e = .normal ∧ J (i + 1) s'.m) ⟨setT s.t ps (enc i), m⟩)
    (done : ∀ m, J N m → goX P n .normal k ⟨s.t, m⟩) : rangeH P n v g ps cx cy k s :=
  range_intro hm hg N enc J hit hlen h0 round done
theorem rng_t2 (t : Nat → Value) (i j : Nat) (x y : Value) (m : Mem) (k : Nat) : (⟨setT t [i, j] [x, y], m⟩ : St).t k = if k = j then y else if k = i then x else t k := rfl
theorem rng_t1 (t : Nat → Value) (i : Nat) (x : Value) (m : Mem) (k : Nat) : (⟨setT t [i] [x], m⟩ : St).t k = if k = i then x else t k := rfl
theorem rng_t0 (s : St) (m : Mem) (k : Nat) : (⟨s.t, m⟩ : St).t k = s.t k := rfl
theorem rng_m (t : Nat → Value) (m : Mem) : (⟨t, m⟩ : St).m = m := rfl
end Go.Proofs.Ytjdallbnbjnghaa.Ab
