/- Ranges over functions whose bodies may return. -/
import Derived.Test.YtamhhicnfpemeaaAb2
namespace Go.Proofs.Ytamhhicnfpemeaa.Ab
open Go Go.RowKit
set_option linter.unusedVariables false
variable {W0 : World} {base : Nat} {ρ : Places} {m : Mem} {w : World} {n : Nat} {s : St} {a : Act} {P : Program} {lw : Nat}
/-- What a function that is ranged over does, if it stops as soon as it is told to: as Iter; it may be told not to go on, and returns at once. -/
def IterS (P : Program) (gf : FuncId) (caps : List Value) (N : Nat) (enc : Nat → List Value) (J : Nat → Mem → Prop) : Prop :=
  (∃ fn, P.funcs[gf]? = some fn ∧ (fn.name == "runtime.NumGoroutine") = false ∧ fn.body.isNone = false) ∧
  ∀ (base : Nat) (ρ : Places) (lb : List Value), VL ρ caps lb → ∀ (l : Nat) (J' : Nat → World → Prop) (S' : World → Prop), (∀ k W W', J' k W → W.grownBy W' none → J' k W') → (∀ W W', S' W → W.grownBy W' none → S' W') →
    (∀ k W, J' k W → ∃ W0 ρ' m', J k m' ∧ ρ <+: ρ' ∧ MRel W0 base ρ' m' W) →
    (∀ k W, k < N → J' k W → ∀ args : List Value, (∀ W0 ρ' m', J k m' → ρ <+: ρ' → MRel W0 base ρ' m' W → VL ρ' (enc k) args) → ∃ (fn : FuncId) (T : Array Value) (X Y : Code), (Instr.yield l args.toArray).run P W = .ok (.round l fn T X Y) W ∧ RoundIn Fence.wide 0 P l fn T X Y W fun e W' => (e = .returned (.bool true) ∧ J' (k + 1) W') ∨ (e = .returned (.bool false) ∧ S' W')) →
    ∀ W, J' 0 W → CallsIn Fence.wide 0 P gf (#[.func (.yield l) #[] #[]] ++ lb.toArray) W fun e W' => (∃ v, e = .returned v) ∧ (J' N W' ∨ S' W')
theorem range_intro_s (hm : P.follows .mixedOrders = true) {g : Operand} {ps : List Nat} {cx cy : ACode} {Q : Exit → St → Prop} {gf : FuncId} {caps : Array Value} (hg : s.ev g = .func (.func gf) #[] caps)
    (N : Nat) (enc : Nat → List Value) (J : Nat → Mem → Prop) (S : Mem → Prop) (hit : IterS P gf caps.toList N enc J) (hlen : ∀ k, (enc k).length = ps.length) (h0 : J 0 s.m)
    (round : ∀ k m, k < N → J k m → runC P n cx (fun e s1 => e = .normal ∧ runC P n cy (fun e s' => (e = .normal ∧ J (k + 1) s'.m) ∨ (e = .ret ∧ S s'.m)) s1) ⟨setT s.t ps (enc k), m⟩)
    (done : ∀ m, J N m → Q .normal ⟨s.t, m⟩) (stop : ∀ m, S m → Q .ret ⟨s.t, m⟩) : RangeA P n g ps cx cy Q s := by
  intro X Y qs hX hY hok hqs _ r0 fu lw W0 base ρ a w hr0 hs
  subst hqs
  obtain ⟨⟨fn0, hfn0, hname, hbody⟩, hcall⟩ := hit
  have hgv := hs.ev hok
  rw [hg] at hgv
  obtain ⟨lb, hge, hvl⟩ : ∃ lb : List Value, a.eval g = .func (.func gf) #[] lb.toArray ∧ VL ρ caps.toList lb := by
    generalize a.eval g = y at hgv
    cases hgv with
    | @fn _ _ _ c d h1 h2 h3 h4 =>
      refine ⟨d.toList, ?_, VL.of_arr h2 h4⟩
      have : c = #[] := Array.eq_empty_of_size_eq_zero (by rw [← h1]; rfl)
      rw [this]
  have hrw : InRound r0 w := hr0.on hs.mem.reb
  refine wpIn_rangeFunc ?_
  intro fn _
  obtain ⟨L, Wb, df, hent, hgb, hnd, hL⟩ := enter_run (P := P) hrw fn a.tmps qs X Y
  obtain ⟨l, hl⟩ : ∃ l, l = Wb.heap.size := ⟨_, rfl⟩
  obtain ⟨R, hR⟩ : ∃ R : Loop, R = recOf fn a.tmps qs X Y df := ⟨_, rfl⟩
  rw [← hR, ← hl] at hent
  have hmb : MRel W0 base ρ s.m Wb := hs.mem.grown hgb
  have hbl : base ≤ l := by rw [hl]; exact hmb.le
  have hm1 : MRel Wb base ρ s.m (Wb.alloc (.loop R)) := hmb.now.grown (World.grownBy_alloc Wb _ none)
  have hl1 : (Wb.alloc (.loop R)).heap[l]? = some (.loop R) := by rw [hl]; exact World.alloc_heap_new Wb _
  have hRf : R.state = .ready ∧ R.pending = none := by rw [hR]; exact ⟨rfl, rfl⟩
  refine ⟨l, L.map markOf, Wb.alloc (.loop R), { target := .fn (.func gf) lb.toArray, args := #[.func (.yield l) #[] #[]] }, Wb.alloc (.loop R), gf, #[.func (.yield l) #[] #[]] ++ lb.toArray, Wb.alloc (.loop R), hent, ?_, fun _ _ => trivial, ?_, fun hd => (by cases hd), ?_⟩
  · simp only [resolve, hge]
    simp [go_sem]
  · simp only [invoke, Sem.run_bind, Sem.run_pure, Result.andThen_ok, callFunc, program, Sem.run, hfn0, hname, hbody, Bool.false_eq_true, if_false]
  · have key := hcall base ρ lb hvl l (fun k W => (∃ m' ρ', J k m' ∧ ρ <+: ρ' ∧ MRel Wb base ρ' m' W) ∧ W.heap[l]? = some (.loop R))
      (fun W => (∃ m' ρ', S m' ∧ ρ <+: ρ' ∧ MRel Wb base ρ' m' W) ∧ W.heap[l]? = some (.loop { R with state := .done, pending := some .ret }))
      (fun k W W' ⟨⟨m', ρ', h1, h2, h3⟩, h4⟩ hgr => ⟨⟨m', ρ', h1, h2, h3.grown hgr⟩, (hgr.block l (Array.getElem?_eq_some_iff.1 h4).1 (by simp)).trans h4⟩)
      (fun W W' ⟨⟨m', ρ', h1, h2, h3⟩, h4⟩ hgr => ⟨⟨m', ρ', h1, h2, h3.grown hgr⟩, (hgr.block l (Array.getElem?_eq_some_iff.1 h4).1 (by simp)).trans h4⟩)
      (fun k W ⟨⟨m', ρ', h1, h2, h3⟩, _⟩ => ⟨Wb, ρ', m', h1, h2, h3⟩)
      ?_ _ ⟨⟨s.m, ρ, h0, List.prefix_refl _, hm1⟩, hl1⟩
    · refine (show CallsIn (fen r0) (fu - 1) P gf _ _ _ from fen_calls (callsIn_wide.1 key)).mono ?_
      rintro e W5 ⟨⟨v, rfl⟩, ⟨⟨m', ρ', hj, hp, hm5⟩, hl5⟩ | ⟨⟨m', ρ', hj, hp, hm5⟩, hl5⟩⟩
      · refine ⟨none, W5.putObj l (.loop { R with state := .exhausted }), ?_, ?_⟩
        · rw [run_endLoop hl5 (by rw [hRf.1]; simp), hRf.2]
        · have hm6 : MRel Wb base ρ' m' (W5.putObj l (.loop { R with state := .exhausted })) := hm5.obj _ hl5 rfl (by omega) hbl
          refine ⟨⟨s.t, m'⟩, ρ', _, done m' hj, hp, hmb.reb.trans hm6.reb, hm6.now, ?_, hs.size, fun i hi => (hs.tmps i hi).mono hp⟩
          obtain ⟨q1, L0, q2, q3, q4⟩ := hs.defers
          have hsz : W0.heap.size ≤ w.heap.size := hs.mem.below.size
          have hwb : w.heap.size ≤ Wb.heap.size := hgb.size
          have keepD : ∀ D, Wb.heap[D]? = some (Obj.deferred (some [])) → (W5.putObj l (.loop { R with state := .exhausted })).heap[D]? = some (Obj.deferred (some [])) := fun D hD => hm6.oth D _ hD rfl
          refine ⟨Nat.le_trans q1 (Nat.le_trans hmb.below.size hm6.below.size), L ++ L0, by show _ ++ a.defers = _; rw [q2, List.map_append], ?_, ?_⟩
          · rw [List.nodup_append]
            refine ⟨hnd, q3, fun x hx y hy e => ?_⟩
            subst e
            have h1 := (hL x hx).1
            have h2 := (Array.getElem?_eq_some_iff.1 (q4 x hy).2.2).1
            omega
          · intro D hD
            rcases List.mem_append.1 hD with hD | hD
            · obtain ⟨d1, d2⟩ := hL D hD
              have := hs.mem.le
              exact ⟨by omega, by omega, keepD D d2⟩
            · obtain ⟨d1, d2, d3⟩ := q4 D hD
              exact ⟨d1, d2, keepD D (hmb.oth D _ d3 rfl)⟩
      · refine ⟨some .ret, W5.putObj l (.loop { R with state := .exhausted, pending := some .ret }), ?_, ?_⟩
        · rw [run_endLoop hl5 (by simp)]
        · have hm6 : MRel Wb base ρ' m' (W5.putObj l (.loop { R with state := .exhausted, pending := some .ret })) := hm5.obj _ hl5 rfl (by omega) hbl
          refine Go.wpIn_ret ?_
          refine ⟨⟨s.t, m'⟩, ρ', _, stop m' hj, hp, hmb.reb.trans hm6.reb, hm6.now, ?_, hs.size, fun i hi => (hs.tmps i hi).mono hp⟩
          obtain ⟨q1, L0, q2, q3, q4⟩ := hs.defers
          have hsz : W0.heap.size ≤ w.heap.size := hs.mem.below.size
          have hwb : w.heap.size ≤ Wb.heap.size := hgb.size
          have keepD : ∀ D, Wb.heap[D]? = some (Obj.deferred (some [])) → (W5.putObj l (.loop { R with state := .exhausted, pending := some .ret })).heap[D]? = some (Obj.deferred (some [])) := fun D hD => hm6.oth D _ hD rfl
          refine ⟨Nat.le_trans q1 (Nat.le_trans hmb.below.size hm6.below.size), L ++ L0, by show _ ++ a.defers = _; rw [q2, List.map_append], ?_, ?_⟩
          · rw [List.nodup_append]
            refine ⟨hnd, q3, fun x hx y hy e => ?_⟩
            subst e
            have h1 := (hL x hx).1
            have h2 := (Array.getElem?_eq_some_iff.1 (q4 x hy).2.2).1
            omega
          · intro D hD
            rcases List.mem_append.1 hD with hD | hD
            · obtain ⟨d1, d2⟩ := hL D hD
              have := hs.mem.le
              exact ⟨by omega, by omega, keepD D d2⟩
            · obtain ⟨d1, d2, d3⟩ := q4 D hD
              exact ⟨d1, d2, keepD D (hmb.oth D _ d3 rfl)⟩
    · rintro k W hk ⟨⟨m', ρ', hj, hp, hmW⟩, hlW⟩ args hargs0
      have hargs := hargs0 Wb ρ' m' hj hp hmW
      have hargl : args.toArray.size = R.params.size := by
        have h1 := hargs.1
        have h2 := hlen k
        rw [hR]
        simp only [recOf, List.size_toArray]
        simpa using (h1.symm.trans h2)
      have hy := run_yield (P := P) (args := args.toArray) hlW hargl
      refine ⟨_, _, _, _, hy, ?_⟩
      have hRa : R.assign = X ∧ R.body = Y ∧ R.tmps = a.tmps ∧ R.params = qs := by rw [hR]; exact ⟨rfl, rfl, rfl, rfl⟩
      rw [hRa.1, hRa.2.1, hRa.2.2.1, hRa.2.2.2]
      refine roundIn_of_wpIn (F := Fence.wide) trivial ?_
      obtain ⟨T, hT⟩ : ∃ T : Array Value, T = (qs.zip args.toArray).foldl (fun tmps (t, a) => tmps.setIfInBounds t a) a.tmps := ⟨_, rfl⟩
      rw [← hT]
      have hTl : T = (qs.toList.zip args).foldl (fun (T : Array Value) (p : Nat × Value) => T.setIfInBounds p.1 p.2) a.tmps := by
        rw [hT, ← Array.foldl_toList, Array.toList_zip]
      have hrel := set_rel (ρ := ρ') qs.toList (enc k) args s.t a.tmps hargs hs.size (fun i hi => (hs.tmps i hi).mono hp)
      rw [← hTl] at hrel
      have hsr : SRel W.heap.size W base ρ' n ⟨setT s.t qs.toList (enc k), m'⟩ { tmps := T, defers := [] } W :=
        ⟨hmW.now, ⟨Nat.le_refl _, [], rfl, .nil, fun _ h => by cases h⟩, hrel.1, fun i hi => hrel.2 i hi⟩
      have hrd := round k m' hk hj
      refine Code.wpIn_mono ?_ (run_sound hm X cx _ _ hX hrd (some l) 0 _ W base ρ' _ W (fun l' hl' => by cases hl'; exact ⟨R, hlW⟩) hsr)
      rintro e a1 w1 ⟨s1, ρ1, W1, ⟨he1, hk1⟩, hp1, hrb1, hs1⟩
      subst he1
      have hl2 : w1.heap[l]? = some (.loop R) := hs1.mem.oth l _ (hrb1.2 l _ hlW rfl) rfl
      refine ⟨_, run_beginRound hl2 hRf.1, ?_⟩
      have hmw1 : MRel Wb base ρ1 s1.m w1 := hs1.mem.from (hmW.reb.trans hrb1)
      have hm2 := hmw1.obj (.loop { R with state := .busy }) hl2 rfl (by omega) hbl
      have hl3 : (w1.putObj l (.loop { R with state := .busy })).heap[l]? = some (.loop { R with state := .busy }) := World.putObj_heap_same (Array.getElem?_eq_some_iff.1 hl2).1
      obtain ⟨w2, hw2⟩ : ∃ w2, w2 = w1.putObj l (.loop { R with state := .busy }) := ⟨_, rfl⟩
      have hdf : Marks W.heap.size w2 base a1.defers := by
        obtain ⟨q1, L1, q2, q3, q4⟩ := hs1.defers
        have hz : w2.heap.size = w1.heap.size := by rw [hw2]; simp
        have hz2 := hs1.mem.below.size
        refine ⟨by omega, L1, q2, q3, fun D hD => ?_⟩
        obtain ⟨d1, d2, d3⟩ := q4 D hD
        have d4 := hs1.mem.oth D _ d3 rfl
        refine ⟨d1, d2, ?_⟩
        rw [hw2, World.putObj_heap_other (fun e => by subst e; rw [hl2] at d4; cases d4)]
        exact d4
      rw [← hw2] at hm2 hl3 ⊢
      have hsr2 : SRel W.heap.size w2 base ρ1 n s1 a1 w2 := ⟨hm2.now, hdf, hs1.size, hs1.tmps⟩
      refine Code.wpIn_mono ?_ (run_sound hm Y cy _ _ hY hk1 (some l) 0 _ w2 base ρ1 _ w2 (fun l' hl' => by cases hl'; exact ⟨_, hl3⟩) hsr2)
      rintro e a3 w3 ⟨s3, ρ3, W3, ⟨he, hj3⟩ | ⟨he, hj3⟩, hp3, hrb3, hs3⟩ <;> subst he
      · have hl4 : w3.heap[l]? = some (.loop { R with state := .busy }) := hs3.mem.oth l _ (hrb3.2 l _ hl3 rfl) rfl
        refine ⟨_, _, run_endRound none hl4, .inl ⟨rfl, ?_⟩⟩
        have hm4 : MRel Wb base ρ3 s3.m w3 := hs3.mem.from (hm2.reb.trans hrb3)
        have hRe : ({ ({ R with state := .busy } : Loop) with state := .ready, pending := none } : Loop) = R := by rw [hR]; rfl
        refine ⟨⟨s3.m, ρ3, hj3, hp.trans (hp1.trans hp3), hm4.obj _ hl4 rfl (by omega) hbl⟩, ?_⟩
        refine (World.putObj_heap_same (Array.getElem?_eq_some_iff.1 hl4).1).trans ?_
        simp only [Option.isNone_none, if_true, hRe]
      · have hl4 : w3.heap[l]? = some (.loop { R with state := .busy }) := hs3.mem.oth l _ (hrb3.2 l _ hl3 rfl) rfl
        refine ⟨_, _, run_endRound (some .ret) hl4, .inr ⟨rfl, ?_⟩⟩
        have hm4 : MRel Wb base ρ3 s3.m w3 := hs3.mem.from (hm2.reb.trans hrb3)
        refine ⟨⟨s3.m, ρ3, hj3, hp.trans (hp1.trans hp3), hm4.obj _ hl4 rfl (by omega) hbl⟩, ?_⟩
        refine (World.putObj_heap_same (Array.getElem?_eq_some_iff.1 hl4).1).trans ?_
        subst hR; rfl
theorem range_run_s (hm : P.follows .mixedOrders = true) {g : Operand} {ps : List Nat} {cx cy : ACode} {k : Kont} {v : Value} {gf : FuncId} {caps : Array Value} (hg : s.ev g = .func (.func gf) #[] caps)
    (N : Nat) (enc : Nat → List Value) (J : Nat → Mem → Prop) (S : Mem → Prop) (hit : IterS P gf caps.toList N enc J) (hlen : ∀ k, (enc k).length = ps.length) (h0 : J 0 s.m)
    (round : ∀ i m, i < N → J i m → goC P n cx (.done fun e s1 => e = .normal ∧ goC P n cy (.done fun e s' => (e = .normal ∧ J (i + 1) s'.m) ∨ (e = .ret ∧ S s'.m)) s1) ⟨setT s.t ps (enc i), m⟩)
    (done : ∀ m, J N m → goX P n .normal k ⟨s.t, m⟩) (stop : ∀ m, S m → goX P n .ret k ⟨s.t, m⟩) : rangeH P n v g ps cx cy k s :=
  range_intro_s hm hg N enc J S hit hlen h0 round done stop
end Go.Proofs.Ytamhhicnfpemeaa.Ab
