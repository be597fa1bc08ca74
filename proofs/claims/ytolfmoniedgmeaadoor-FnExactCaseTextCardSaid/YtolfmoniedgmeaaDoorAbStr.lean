/- Texts (a Door seat): what makes texts of numbers, as a proof sees it. -/
import Derived.Test.YtolfmoniedgmeaaDoorAbObj2
import Derived.Test.YtolfmoniedgmeaaDoorNum
import Derived.Test.YtolfmoniedgmeaaDoorImplJoin
import Derived.Test.YtolfmoniedgmeaaDoorStrMath
import Derived.Test.YtolfmoniedgmeaaDoorLaid
namespace Go.Proofs.YtolfmoniedgmeaaDoor.Ab
open Go Go.RowKit
set_option linter.unusedVariables false
set_option linter.unusedSimpArgs false

theorem TabA.xt2 {m M : Mem} {v : Value} {T : List (List Int)} (h : TabA m v T) (hx : Ext m M) : TabA M v T := by
  obtain ⟨n0, rfl, _⟩ := hx
  exact h.ro.ext n0
theorem rc_plain {P : Program} {f : FuncId} {args : List Value} {m : Mem} {v : Value} (hf : ∃ fn, P.funcs[f]? = some fn ∧ (fn.name == "runtime.NumGoroutine") = false ∧ fn.body.isNone = false) (hv : ∀ ρ, VR ρ v v)
    (H : ∀ (ρ : Places) (w : World) (cargs : List Value), MRel w w.heap.size ρ (roM m) w → VL ρ args cargs → Calls P f cargs.toArray w (fun e w' => e = .returned v ∧ Below w.heap.size w w')) : RC P f args m (AnsV v) :=
  ⟨hf, fun ρ w cargs hm ha => (H ρ w cargs hm ha).mono fun e w' ⟨he, hb⟩ => ⟨v, v, [], [], he, ⟨rfl, noRo_nil⟩, noRo_nil, by simpa using hm.keep hb, by simpa using hv ρ⟩⟩
theorem FnOk.is {P : Program} {f : FuncId} {n : Nat} {c : ACode} {res : List ARes} (hf : FnOk P f n c res) : ∃ fn, P.funcs[f]? = some fn ∧ (fn.name == "runtime.NumGoroutine") = false ∧ fn.body.isNone = false := by
  obtain ⟨fn, C, hfn, hname, hb, _⟩ := hf.ok
  exact ⟨fn, hfn, hname, by rw [hb]; rfl⟩
theorem VL.inv1 {ρ : Places} {x : Value} {cs : List Value} (h : VL ρ [x] cs) : ∃ y, cs = [y] ∧ VR ρ x y := by
  obtain ⟨hl, hp⟩ := h
  match cs, hl with
  | [y], _ => exact ⟨y, rfl, hp 0 x y rfl rfl⟩
theorem VL.inv2 {ρ : Places} {x1 x2 : Value} {cs : List Value} (h : VL ρ [x1, x2] cs) : ∃ y1 y2, cs = [y1, y2] ∧ VR ρ x1 y1 ∧ VR ρ x2 y2 := by
  obtain ⟨hl, hp⟩ := h
  match cs, hl with
  | [y1, y2], _ => exact ⟨y1, y2, rfl, hp 0 x1 y1 rfl rfl, hp 1 x2 y2 rfl rfl⟩
theorem VR.str_inv {ρ : Places} {s : ByteArray} {x : Value} (h : VR ρ (.string s) x) : x = .string s := by cases h; rfl
theorem vr_sb (ρ : Places) (s : ByteArray) (b : Bool) : VR ρ (.tuple #[.string s, .bool b]) (.tuple #[.string s, .bool b]) :=
  .tup rfl fun i x y hx hy => by
    rw [hx] at hy
    cases hy
    match i, hx with
    | 0, hx => cases hx; exact .str _
    | 1, hx => cases hx; exact .bool _
    | i + 2, hx => simp at hx
theorem tab_of {w : World} {base : Nat} (h : TabOk base w) : Lib.TabIs Tryd.prog w "internal/strconv.uint64pow10" .u64 Lib.pow10Tab := by
  obtain ⟨h1, t, fz, h2⟩ := h _ _ rfl
  unfold Lib.TabIs World.var?
  rw [gTab]
  simp only [Option.bind_some, h2]
theorem tab_ok {W : World} (h : Lib.TabIs Tryd.prog W "internal/strconv.uint64pow10" .u64 Lib.pow10Tab) : TabOk W.heap.size W := by
  unfold Lib.TabIs World.var? at h
  rw [gTab] at h
  simp only [Option.bind_some] at h
  intro g vs hg
  obtain ⟨rfl, rfl⟩ : 3 = g ∧ (Lib.pow10Tab.map fun z => Value.int .u64 z).toArray = vs := by
    have := Option.some.inj hg
    exact ⟨congrArg Prod.fst this, congrArg Prod.snd this⟩
  split at h
  · rename_i cs t fz hc
    have := Option.some.inj h
    subst this
    exact ⟨(Array.getElem?_eq_some_iff.1 hc).1, t, fz, hc⟩
  · cases h
theorem implFormat_rc (m : Mem) (n : Int) (h1 : -999999 ≤ n) (h2 : n ≤ 999999) : RC Tryd.prog 39 [.int .i64 n] m (AnsV (.tuple #[.string ⟨(Lib.itoa n).toArray⟩, .bool true])) := by
  have e1 : fmtStr n = ⟨(Lib.itoa n).toArray⟩ := by unfold fmtStr; rw [if_pos ⟨h1, h2⟩]
  have e2 : fmtOk n = true := by unfold fmtOk; exact decide_eq_true ⟨h1, h2⟩
  rw [← e1, ← e2]
  refine rc_plain ok_impl_FormatInt.is (fun ρ => vr_sb ρ _ _) fun ρ w cargs hm ha => ?_
  obtain ⟨y, rfl, hy⟩ := ha.inv1
  obtain rfl := hy.int_inv
  refine implFormat_any n w ?_ (tab_of hm.tab)
  have a1 : (IntKind.i64).min = -9223372036854775808 := by decide
  have a2 : (IntKind.i64).max = 9223372036854775807 := by decide
  simp only [Lit.wf, a1, a2, Bool.and_eq_true, decide_eq_true_eq]
  omega
theorem l1Num_rc (m : Mem) (n : Int) (h1 : -999999 ≤ n) (h2 : n ≤ 999999) : RC Tryd.prog 28 [.int .i64 n] m (AnsV (.string ⟨(Lib.itoa n).toArray⟩)) := by
  refine rc_plain ok_spec_l1Num.is (fun ρ => .str _) fun ρ w cargs hm ha => ?_
  obtain ⟨y, rfl, hy⟩ := ha.inv1
  obtain rfl := hy.int_inv
  exact (l1Num_any n w (by omega) (by omega)).mono fun e w' ⟨he, hd⟩ => ⟨he, hd.below _⟩
theorem cell_lt {w : World} {a : Addr} {v : Value} (h : w.cell? a = some v) : a.block < w.heap.size := by
  rcases Nat.lt_or_ge a.block w.heap.size with h1 | h1
  · exact h1
  · unfold World.cell? at h
    rw [Array.getElem?_eq_none h1] at h
    cases h
theorem implJoin_rc (m : Mem) (id off fl n : Nat) (l : List ByteArray) (b : UInt8) (hn : n = l.length) (hrd : ∀ k s, l[k]? = some s → rdc m id (off + k) = some (.string s)) (hl : 0 < l.length) (hl2 : l.length ≤ 1048576) (hs : ∀ s ∈ l, s.size ≤ 1048576) :
    RC Tryd.prog 31 [.slice (some ⟨id, off, none⟩) n fl, .string ⟨#[b]⟩] m (AnsV (.tuple #[.string (joinStr b (l.map (·.data.toList))), .bool (canJ b 4001 (l.map (·.data.toList)))])) := by
  subst hn
  refine rc_plain ok_impl_JoinStrings.is (fun ρ => vr_sb ρ _ _) fun ρ w cargs hm ha => ?_
  obtain ⟨y1, y2, rfl, g1, g2⟩ := ha.inv2
  obtain rfl := g2.str_inv
  obtain ⟨b1, o, tot, c, A, rfl, hp, hk, hc, h0, hfl⟩ := g1.slice_inv
  have hA : A = _ := VR.slice_addr hl hk h0 hfl
  have cell : ∀ k s, l[k]? = some s → w.cell? ⟨b1, o + off + k, none⟩ = some (.string s) := fun k s h => by
    obtain ⟨y, h1, h2⟩ := hm.load (k := off + k) (x := .string s) (by rw [rdc_roM]; exact hrd k s h) hp
    obtain rfl := h2.str_inv
    rw [Nat.add_assoc]; exact h1
  refine implJoin_at l A c b w (fun _ => ⟨b1, o + off, hA, ?_, fun k u hu => ?_⟩) hl2 hk hs hl
  · exact cell_lt (cell 0 l[0] (List.getElem?_eq_getElem hl))
  · rw [List.getElem?_map] at hu
    cases hs' : l[k]? with
    | none => rw [hs'] at hu; cases hu
    | some s => rw [hs'] at hu; cases hu; exact cell k s hs'

/-- The texts of the first numbers, as cells. -/
def strC (L : List (List UInt8)) : List Value := L.map fun s => Value.string ⟨s.toArray⟩
theorem strC_len (L : List (List UInt8)) : (strC L).length = L.length := by simp [strC]
theorem strC_app (L : List (List UInt8)) (s : List UInt8) : strC (L ++ [s]) = strC L ++ [.string ⟨s.toArray⟩] := by simp [strC]
theorem strC_at {L : List (List UInt8)} {k : Nat} {s : ByteArray} (h : (L.map fun s => (⟨s.toArray⟩ : ByteArray))[k]? = some s) : (strC L)[k]? = some (.string s) := by
  rw [List.getElem?_map] at h
  rw [strC, List.getElem?_map]
  cases hk : L[k]? with
  | none => rw [hk] at h; cases h
  | some t => rw [hk] at h; cases h; rfl
theorem strC_back (L : List (List UInt8)) : (L.map fun s => (⟨s.toArray⟩ : ByteArray)).map (·.data.toList) = L := by
  rw [List.map_map]; conv => rhs; rw [← List.map_id L]
  exact List.map_congr_left fun x _ => rfl
theorem join_own {m : Mem} {id fl n : Nat} {L : List (List UInt8)} {b : UInt8} {e : TypeId} (h : OwnB m id e (strC L)) (hn : n = L.length) (hl : 0 < L.length) (hl2 : L.length ≤ 1048576) (hs : ∀ s ∈ L, s.length ≤ 1048576) (hc : canJ b 4001 L = true) :
    RC Tryd.prog 31 [.slice (some ⟨id, 0, none⟩) n fl, .string ⟨#[b]⟩] m (AnsV (.tuple #[.string ⟨(Lib.join L [b]).toArray⟩, .bool true])) := by
  have H := implJoin_rc m id 0 fl n (L.map fun s => (⟨s.toArray⟩ : ByteArray)) b (by rw [List.length_map]; exact hn) (fun k s hk => by rw [Nat.zero_add, h.rd]; exact strC_at hk) (by rw [List.length_map]; exact hl) (by rw [List.length_map]; exact hl2)
    (fun s hs' => by
      obtain ⟨t, ht, rfl⟩ := List.mem_map.1 hs'
      exact hs t ht)
  rw [strC_back, joinStr_yes hc, hc] at H
  exact H
theorem bsl_str {m : Mem} {e : TypeId} {s : ByteArray} : bslA m e 1 1 [.string ⟨#[]⟩] [(0, 1, .string s)] = some (.slice (some ⟨m.length, 0, none⟩) 1 1, m ++ [⟨.own, e, [.string s]⟩]) := rfl
theorem take_nextM {α : Type} {f : α → List UInt8} {l : List α} {i : Nat} (h : i < l.length) : (l.take (i + 1)).map f = (l.take i).map f ++ [f l[i]] := by
  rw [List.take_succ_eq_append_getElem h, List.map_append]; rfl
theorem numbersText_rc (m : Mem) (v : Value) (l : List Int) (h : IntsA m v l) (hs : SmallL l) : RC Tryd.prog 30 [v] m (AnsV (.tuple #[.string ⟨(numT l).toArray⟩, .bool true])) := by
  refine rc_of_run mixed ok_impl_numbersText (by simp) (go_start _ _ _ ?_)
  have hr := h.ro
  obtain ⟨p1, p2, p3⟩ := hs
  simp (config := {implicitDefEqProofs := false, maxDischargeDepth := 20}) (disch := first | omega | (simp only [lenE]; done) | (simp only [lenE]; omega) | rfl | (simp only [lenE, markR_len]; done) | (simp only [lenE, markR_len]; omega)) only [runE, mapE, listE, initT_5, initT_6, initT_7, initT_8, resV, oneV, binA, unA, reduceCtorEq, Nat.reduceEqDiff, Nat.reduceAdd, Nat.reduceLT, Nat.reduceLeDiff, Nat.reduceMul, Nat.reduceSub, ↓reduceIte, decide_true, decide_false, Bool.true_eq_false, Bool.false_eq_true, Bool.not_true, Bool.not_false, if_true, if_false, and_true, true_and, memE, celE, w64, Nat.zero_add, Nat.add_zero, Nat.mul_one, putL, and_self, ldn, c_impl_numbersText, r_impl_numbersText, bsl_no, hr.len]
  refine loop_inv mixed (fun s => ∃ (i : Nat) (M : Mem) (id : Nat), i ≤ l.length ∧ s.m = M ∧ Ext m M ∧ OwnB M id 9 (strC ((l.take i).map Lib.itoa)) ∧ m.length ≤ id ∧ s.t 4 = .slice (some ⟨id, 0, none⟩) i 1 ∧ s.t 10 = v ∧ s.t 11 = .int .i64 l.length ∧ s.t 12 = .int .i64 i) (fun s => l.length - (intOf (s.t 12)).toNat)
    ⟨0, _, m.length, by omega, rfl, (Ext.refl m).one _ _, OwnB.here (by simp [roM_len]), by omega, by simp only [put_t, put_t', put_m, putT_t, putT_t', putT_m, init_t, init_m, initT_0, initT_1, initT_2, initT_3, initT_4, initT_5, initT_6, initT_7, initT_8, Nat.reduceEqDiff, ↓reduceIte], rfl, rfl, rfl⟩ ?_
  rintro s ⟨i, M, id, hi, tm, hX, ho, hid, t4, t10, t11, t12⟩
  have hM := hX.ints hr
  by_cases hlt : i < l.length
  · have hlt' : (i : Int) < l.length := by omega
    have hx := p3 l[i] (List.getElem_mem hlt)
    have hg : l.getD i 0 = l[i] := by rw [List.getD_eq_getElem?_getD, List.getElem?_eq_getElem hlt]; rfl
    have c2 := hM.ld i hlt
    rw [hg] at c2
    simp (config := {implicitDefEqProofs := false, maxDischargeDepth := 20}) (disch := first | omega | (simp only [lenE]; done) | (simp only [lenE]; omega) | rfl | (simp only [lenE, markR_len]; done) | (simp only [lenE, markR_len]; omega)) only [runE, mapE, listE, initT_5, initT_6, initT_7, initT_8, resV, oneV, binA, unA, reduceCtorEq, Nat.reduceEqDiff, Nat.reduceAdd, Nat.reduceLT, Nat.reduceLeDiff, Nat.reduceMul, Nat.reduceSub, ↓reduceIte, decide_true, decide_false, Bool.true_eq_false, Bool.false_eq_true, Bool.not_true, Bool.not_false, if_true, if_false, and_true, true_and, memE, celE, w64, Nat.zero_add, Nat.add_zero, Nat.mul_one, putL, and_self, ldn, tm, t4, t10, t11, t12, hlt', hM.at_ i hlt, c2]
    refine callH_rc (implFormat_rc M l[i] hx.1 hx.2) ?_
    rintro r n1 ⟨rfl, nr1⟩
    have ho1 := ho.ext n1
    have hX1 := hX.app nr1
    have hidl := ho1.lt
    have hXl := hX1.len
    obtain ⟨M1, hM1⟩ : ∃ M', M' = M ++ n1 := ⟨_, rfl⟩
    rw [← hM1] at ho1 hX1 hidl hXl
    rw [← hM1]
    have happ := app_back (M := M1) (id2 := M1.length) (sz := 1) (byt := 16) (n := i) (ys := [.string ⟨(Lib.itoa l[i]).toArray⟩]) ho1 rfl (by rw [strC_len, List.length_map, List.length_take]; omega) rfl rfl (by omega) (by omega)
    simp (config := {implicitDefEqProofs := false, maxDischargeDepth := 20}) (disch := first | omega | (simp only [lenE]; done) | (simp only [lenE]; omega) | rfl | (simp only [lenE, markR_len]; done) | (simp only [lenE, markR_len]; omega)) only [runE, mapE, listE, initT_5, initT_6, initT_7, initT_8, resV, oneV, binA, unA, reduceCtorEq, Nat.reduceEqDiff, Nat.reduceAdd, Nat.reduceLT, Nat.reduceLeDiff, Nat.reduceMul, Nat.reduceSub, ↓reduceIte, decide_true, decide_false, Bool.true_eq_false, Bool.false_eq_true, Bool.not_true, Bool.not_false, if_true, if_false, and_true, true_and, memE, celE, w64, Nat.zero_add, Nat.add_zero, Nat.mul_one, putL, and_self, ldn, ext_2_0, ext_2_1, t4, t10, t11, t12, bsl_str, happ]
    refine ⟨⟨i + 1, _, M1.length + 1, by omega, rfl, ((hX1.dead (by omega)).one _ _).one _ _, ?_, by omega, rfl, by simp⟩, by simp [intOf]; omega⟩
    rw [take_nextM hlt, strC_app]
    exact OwnB.here (by simp)
  · have hlt' : ¬ ((i : Int) < l.length) := by omega
    have e : i = l.length := by omega
    subst e
    rw [List.take_of_length_le (Nat.le_refl _)] at ho
    simp (config := {implicitDefEqProofs := false, maxDischargeDepth := 20}) (disch := first | omega | (simp only [lenE]; done) | (simp only [lenE]; omega) | rfl | (simp only [lenE, markR_len]; done) | (simp only [lenE, markR_len]; omega)) only [runE, mapE, listE, initT_5, initT_6, initT_7, initT_8, resV, oneV, binA, unA, reduceCtorEq, Nat.reduceEqDiff, Nat.reduceAdd, Nat.reduceLT, Nat.reduceLeDiff, Nat.reduceMul, Nat.reduceSub, ↓reduceIte, decide_true, decide_false, Bool.true_eq_false, Bool.false_eq_true, Bool.not_true, Bool.not_false, if_true, if_false, and_true, true_and, memE, celE, w64, Nat.zero_add, Nat.add_zero, Nat.mul_one, putL, and_self, ldn, tm, t4, t10, t11, t12, hlt']
    refine callH_rc (join_own (b := 47) ho (by rw [List.length_map]) (by rw [List.length_map]; omega) (by rw [List.length_map]; omega) (fun s hs => ?_) (numT_can ⟨p1, p2, p3⟩)) ?_
    · obtain ⟨x, hx, rfl⟩ := List.mem_map.1 hs
      have := itoa_len7 (p3 x hx).1 (p3 x hx).2
      omega
    rintro r n1 ⟨rfl, nr1⟩
    simp (config := {implicitDefEqProofs := false, maxDischargeDepth := 20}) (disch := first | omega | (simp only [lenE]; done) | (simp only [lenE]; omega) | rfl | (simp only [lenE, markR_len]; done) | (simp only [lenE, markR_len]; omega)) only [runE, mapE, listE, initT_5, initT_6, initT_7, initT_8, resV, oneV, binA, unA, reduceCtorEq, Nat.reduceEqDiff, Nat.reduceAdd, Nat.reduceLT, Nat.reduceLeDiff, Nat.reduceMul, Nat.reduceSub, ↓reduceIte, decide_true, decide_false, Bool.true_eq_false, Bool.false_eq_true, Bool.not_true, Bool.not_false, if_true, if_false, and_true, true_and, memE, celE, w64, Nat.zero_add, Nat.add_zero, Nat.mul_one, putL, and_self, ldn, ext_2_0, ext_2_1]
    exact ext_ansV (hX.app nr1) rfl
/-- The text of rows: none has one of its own. -/
def rowsS (T : List (List Int)) : ByteArray := if T.length = 0 then ⟨#[110, 111, 110, 101]⟩ else ⟨(rowT T).toArray⟩
theorem rowsText_rc (m : Mem) (v : Value) (T : List (List Int)) (h : TabA m v T) (hs : ∀ l ∈ T, SmallL l) (hT : T.length ≤ 40) : RC Tryd.prog 19 [v] m (AnsV (.tuple #[.string (rowsS T), .bool true])) := by
  refine rc_of_run mixed ok_impl_rowsText (by simp) (go_start _ _ _ ?_)
  have hr := h.ro
  by_cases h0 : T.length = 0
  · have h0' : ((T.length : Int) == 0) = true := by rw [h0]; rfl
    simp (config := {implicitDefEqProofs := false, maxDischargeDepth := 20}) (disch := first | omega | (simp only [lenE]; done) | (simp only [lenE]; omega) | rfl | (simp only [lenE, markR_len]; done) | (simp only [lenE, markR_len]; omega)) only [runE, mapE, listE, initT_5, initT_6, initT_7, initT_8, resV, oneV, binA, unA, reduceCtorEq, Nat.reduceEqDiff, Nat.reduceAdd, Nat.reduceLT, Nat.reduceLeDiff, Nat.reduceMul, Nat.reduceSub, ↓reduceIte, decide_true, decide_false, Bool.true_eq_false, Bool.false_eq_true, Bool.not_true, Bool.not_false, if_true, if_false, and_true, true_and, memE, celE, w64, Nat.zero_add, Nat.add_zero, Nat.mul_one, putL, and_self, ldn, c_impl_rowsText, r_impl_rowsText, hr.len, h0']
    try simp only [List.append_assoc, List.cons_append, List.nil_append, List.append_nil]
    exact ⟨[], by simp, noRo_nil, by simp [rowsS, h0], noRo_nil⟩
  have h0' : ((T.length : Int) == 0) = false := by simpa using h0
  simp (config := {implicitDefEqProofs := false, maxDischargeDepth := 20}) (disch := first | omega | (simp only [lenE]; done) | (simp only [lenE]; omega) | rfl | (simp only [lenE, markR_len]; done) | (simp only [lenE, markR_len]; omega)) only [runE, mapE, listE, initT_5, initT_6, initT_7, initT_8, resV, oneV, binA, unA, reduceCtorEq, Nat.reduceEqDiff, Nat.reduceAdd, Nat.reduceLT, Nat.reduceLeDiff, Nat.reduceMul, Nat.reduceSub, ↓reduceIte, decide_true, decide_false, Bool.true_eq_false, Bool.false_eq_true, Bool.not_true, Bool.not_false, if_true, if_false, and_true, true_and, memE, celE, w64, Nat.zero_add, Nat.add_zero, Nat.mul_one, putL, and_self, ldn, c_impl_rowsText, r_impl_rowsText, bsl_no, hr.len, h0']
  refine loop_inv mixed (fun s => ∃ (i : Nat) (M : Mem) (id : Nat), i ≤ T.length ∧ s.m = M ∧ Ext m M ∧ OwnB M id 9 (strC ((T.take i).map numT)) ∧ m.length ≤ id ∧ s.t 4 = .slice (some ⟨id, 0, none⟩) i 1 ∧ s.t 13 = v ∧ s.t 14 = .int .i64 T.length ∧ s.t 15 = .int .i64 i) (fun s => T.length - (intOf (s.t 15)).toNat)
    ⟨0, _, m.length, by omega, rfl, (Ext.refl m).one _ _, OwnB.here (by simp [roM_len]), by omega, by simp only [put_t, put_t', put_m, putT_t, putT_t', putT_m, init_t, init_m, initT_0, initT_1, initT_2, initT_3, initT_4, initT_5, initT_6, initT_7, initT_8, Nat.reduceEqDiff, ↓reduceIte], rfl, rfl, rfl⟩ ?_
  rintro s ⟨i, M, id, hi, tm, hX, ho, hid, t4, t13, t14, t15⟩
  have hM := TabA.xt2 h hX
  by_cases hlt : i < T.length
  · have hlt' : (i : Int) < T.length := by omega
    have hx := hs T[i] (List.getElem_mem hlt)
    have hg : T.getD i [] = T[i] := by rw [List.getD_eq_getElem?_getD, List.getElem?_eq_getElem hlt]; rfl
    obtain ⟨u, c2, c3⟩ := hM.ld i hlt
    rw [hg] at c3
    simp (config := {implicitDefEqProofs := false, maxDischargeDepth := 20}) (disch := first | omega | (simp only [lenE]; done) | (simp only [lenE]; omega) | rfl | (simp only [lenE, markR_len]; done) | (simp only [lenE, markR_len]; omega)) only [runE, mapE, listE, initT_5, initT_6, initT_7, initT_8, resV, oneV, binA, unA, reduceCtorEq, Nat.reduceEqDiff, Nat.reduceAdd, Nat.reduceLT, Nat.reduceLeDiff, Nat.reduceMul, Nat.reduceSub, ↓reduceIte, decide_true, decide_false, Bool.true_eq_false, Bool.false_eq_true, Bool.not_true, Bool.not_false, if_true, if_false, and_true, true_and, memE, celE, w64, Nat.zero_add, Nat.add_zero, Nat.mul_one, putL, and_self, ldn, tm, t4, t13, t14, t15, hlt', hM.at_ i hlt, c2]
    refine callH_rc (numbersText_rc M u T[i] c3 hx) ?_
    rintro r n1 ⟨rfl, nr1⟩
    have ho1 := ho.ext n1
    have hX1 := hX.app nr1
    have hidl := ho1.lt
    have hXl := hX1.len
    obtain ⟨M1, hM1⟩ : ∃ M', M' = M ++ n1 := ⟨_, rfl⟩
    rw [← hM1] at ho1 hX1 hidl hXl
    rw [← hM1]
    have happ := app_back (M := M1) (id2 := M1.length) (sz := 1) (byt := 16) (n := i) (ys := [.string ⟨(numT T[i]).toArray⟩]) ho1 rfl (by rw [strC_len, List.length_map, List.length_take]; omega) rfl rfl (by omega) (by omega)
    simp (config := {implicitDefEqProofs := false, maxDischargeDepth := 20}) (disch := first | omega | (simp only [lenE]; done) | (simp only [lenE]; omega) | rfl | (simp only [lenE, markR_len]; done) | (simp only [lenE, markR_len]; omega)) only [runE, mapE, listE, initT_5, initT_6, initT_7, initT_8, resV, oneV, binA, unA, reduceCtorEq, Nat.reduceEqDiff, Nat.reduceAdd, Nat.reduceLT, Nat.reduceLeDiff, Nat.reduceMul, Nat.reduceSub, ↓reduceIte, decide_true, decide_false, Bool.true_eq_false, Bool.false_eq_true, Bool.not_true, Bool.not_false, if_true, if_false, and_true, true_and, memE, celE, w64, Nat.zero_add, Nat.add_zero, Nat.mul_one, putL, and_self, ldn, ext_2_0, ext_2_1, t4, t13, t14, t15, bsl_str, happ]
    refine ⟨⟨i + 1, _, M1.length + 1, by omega, rfl, ((hX1.dead (by omega)).one _ _).one _ _, ?_, by omega, rfl, by simp⟩, by simp [intOf]; omega⟩
    rw [take_nextM hlt, strC_app]
    exact OwnB.here (by simp)
  · have hlt' : ¬ ((i : Int) < T.length) := by omega
    have e : i = T.length := by omega
    subst e
    rw [List.take_of_length_le (Nat.le_refl _)] at ho
    simp (config := {implicitDefEqProofs := false, maxDischargeDepth := 20}) (disch := first | omega | (simp only [lenE]; done) | (simp only [lenE]; omega) | rfl | (simp only [lenE, markR_len]; done) | (simp only [lenE, markR_len]; omega)) only [runE, mapE, listE, initT_5, initT_6, initT_7, initT_8, resV, oneV, binA, unA, reduceCtorEq, Nat.reduceEqDiff, Nat.reduceAdd, Nat.reduceLT, Nat.reduceLeDiff, Nat.reduceMul, Nat.reduceSub, ↓reduceIte, decide_true, decide_false, Bool.true_eq_false, Bool.false_eq_true, Bool.not_true, Bool.not_false, if_true, if_false, and_true, true_and, memE, celE, w64, Nat.zero_add, Nat.add_zero, Nat.mul_one, putL, and_self, ldn, tm, t4, t13, t14, t15, hlt']
    refine callH_rc (join_own (b := 32) ho (by rw [List.length_map]) (by rw [List.length_map]; omega) (by rw [List.length_map]; omega) (fun s hs' => ?_) (rowT_can hs hT)) ?_
    · obtain ⟨x, hx, rfl⟩ := List.mem_map.1 hs'
      have := numT_len (hs x hx)
      omega
    rintro r n1 ⟨rfl, nr1⟩
    simp (config := {implicitDefEqProofs := false, maxDischargeDepth := 20}) (disch := first | omega | (simp only [lenE]; done) | (simp only [lenE]; omega) | rfl | (simp only [lenE, markR_len]; done) | (simp only [lenE, markR_len]; omega)) only [runE, mapE, listE, initT_5, initT_6, initT_7, initT_8, resV, oneV, binA, unA, reduceCtorEq, Nat.reduceEqDiff, Nat.reduceAdd, Nat.reduceLT, Nat.reduceLeDiff, Nat.reduceMul, Nat.reduceSub, ↓reduceIte, decide_true, decide_false, Bool.true_eq_false, Bool.false_eq_true, Bool.not_true, Bool.not_false, if_true, if_false, and_true, true_and, memE, celE, w64, Nat.zero_add, Nat.add_zero, Nat.mul_one, putL, and_self, ldn, ext_2_0, ext_2_1]
    exact ext_ansV (hX.app nr1) (by rw [rowsS, if_neg h0]; rfl)
theorem add_str {x y z : List UInt8} (h : x.length + y.length ≤ 9223372036854775807) (hz : x ++ y = z) : binA .add (.string ⟨x.toArray⟩) (.string ⟨y.toArray⟩) = some (.string ⟨z.toArray⟩) := by
  subst hz
  rw [← mk_app]
  exact if_pos h
theorem add_if {x y z : List UInt8} (h : x.length + y.length ≤ 9223372036854775807) (hz : x ++ y = z) : (if (⟨x.toArray⟩ : ByteArray).size + (⟨y.toArray⟩ : ByteArray).size ≤ 9223372036854775807 then some (Value.string (⟨x.toArray⟩ ++ ⟨y.toArray⟩)) else none) = some (.string ⟨z.toArray⟩) := by
  subst hz
  rw [← mk_app]
  exact if_pos h
theorem slcp_two {id : Nat} : slcpA 1 2 (.pointer (some ⟨id, 0, none⟩)) none none = some (.slice (some ⟨id, 0, none⟩) 2 0) := rfl
end Go.Proofs.YtolfmoniedgmeaaDoor.Ab
