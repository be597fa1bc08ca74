/- FnStrings: whatever the code, the law returns true. Premise, tied by the card to the program's text: the library's tables and its two sentinels hold what their initialisers lay. -/
import Derived.Test.YtofcnabpfdnohaaDoorSpoil
import Derived.Test.YtofcnabpfdnohaaDoorDrawsS
import Derived.Test.YtofcnabpfdnohaaDoorParse
import Derived.Test.YtofcnabpfdnohaaDoorFmtBack
import Derived.Test.YtofcnabpfdnohaaDoorLaidErr
import Derived.Test.YtofcnabpfdnohaaDoorShell
import Derived.Test.YtofcnabpfdnohaaDoorOpen
import Derived.ShutString
namespace Go.Proofs.YtofcnabpfdnohaaDoor.strings
open Go.ChangeShapes Go.WideShapes Go.ChangeAt Go.RowKit
open Go.WideMaps Go.WideElems
open Go.ChangeMaps (open_string shut_string)
set_option linter.unusedVariables false


set_option maxRecDepth 100000 in
set_option maxHeartbeats 4000000 in
theorem walk (l : List Int) (A : Option Addr) (c : Nat) (w : World) (h : Rd w w.heap.size A (l.map (Value.int .u8))) (hlc : l.length ≤ c) (hc : c ≤ maxLen) (hwf : ∀ n ∈ l, IntKind.u8.min ≤ n ∧ n ≤ IntKind.u8.max) (htab : Lib.TabIs Tryd.prog w "internal/strconv.uint64pow10" .u64 Lib.pow10Tab)
    (herr : (∃ p, w.var? Tryd.prog "strconv.ErrRange" = some #[.iface 93 p]) ∧ (∃ p, w.var? Tryd.prog "strconv.ErrSyntax" = some #[.iface 93 p])) :
    Calls Tryd.prog 3 #[.slice A l.length c] w fun e w' => e = .returned (.bool true) ∧ Below w.heap.size w w' := by
  by_cases hbig : 65536 < l.length
  · have HV := Lib.hid (vBig_yes A l.length c hbig (Nat.le_trans hlc hc))
    clear h hwf htab herr
    go_enter Tryd.func3, Tryd.ntmps3
    go_wp2_with fail
    refine (HV.out _).mono ?_
    rintro e w1 ⟨rfl, rfl⟩
    go_wp2
    go_ret
    exact ⟨rfl, Below.refl _ _⟩
  · have hcode : CodeIs w A l.length := ⟨l, rfl, h, fun x hx => hwf x hx⟩
    obtain ⟨n, hn⟩ : ∃ n, l.length = n := ⟨_, rfl⟩
    rw [hn] at hcode hbig hlc ⊢
    have hn2 : n ≤ 65536 := by omega
    obtain ⟨⟨p1, hv1⟩, ⟨p2, hv2⟩⟩ := herr
    have HC := Lib.hid hcode
    have HV := Lib.hid (vBig_any A n c hn2)
    have HT := Lib.hid (fun wx (hx : Below w.heap.size w wx) => tab_below hx htab)
    have HP := Lib.hid (fun s v ok (hs : s.size ≤ 1048576) (hr : ReadsAs s v ok) wx (hx : Below w.heap.size w wx) => implParse_any s wx v ok hs hr (tab_below hx htab) _ _ ⟨p1, var_below hx hv1⟩ ⟨p2, var_below hx hv2⟩)
    clear h hwf hcode hn htab hv1 hv2
    go_enter Tryd.func3, Tryd.ntmps3
    go_wp2_with fail
    refine (HV.out _).mono ?_
    rintro e w0 ⟨rfl, rfl⟩
    go_wp2_with fail
    refine (drawFormat_any A n c _ HC.out hn2).mono ?_
    rintro e w1 ⟨m, hm0, hm1, rfl, hb1⟩
    have B1 := Lib.hid hb1
    have HI := Lib.hid (implFormat_any m w1 (int_wf hm0 hm1) (HT.out _ hb1))
    have HS := Lib.hid (specFormat_any m)
    obtain ⟨v2, ok2, hr2⟩ := reads_some (fmtStr m)
    have hfo : fmtOk m = true → v2 = m ∧ ok2 = true := fun he => fmt_back he hr2
    have HP2 := Lib.hid (HP.out (fmtStr m) v2 ok2 (fmt_size m) hr2)
    obtain ⟨S, hS⟩ : ∃ S, fmtStr m = S := ⟨_, rfl⟩
    obtain ⟨P, hP⟩ : ∃ P, fmtOk m = P := ⟨_, rfl⟩
    rw [hS, hP] at HI HS
    rw [hS] at HP2
    rw [hP] at hfo
    clear hb1 hr2 hS hP
    go_wp2_with fail
    refine HI.out.mono ?_
    rintro e w2 ⟨rfl, hb2⟩
    have B2 := Lib.hid (below_tr B1.out hb2 B1.out.size)
    clear hb2
    go_wp2_with fail
    refine (HS.out _).mono ?_
    rintro e w3 ⟨rfl, hd3⟩
    have B3 := Lib.hid (B2.out.trans (hd3.below _))
    clear hd3
    go_wp2_with fail
    refine (drawParse_any A n c _ (HC.out.below B3.out) hn2).mono ?_
    rintro e w4 ⟨t, ht, rfl, hb4⟩
    have B4 := Lib.hid (below_tr B3.out hb4 B3.out.size)
    obtain ⟨v, ok, hr⟩ := reads_some t
    have HI5 := Lib.hid (HP.out t v ok (by omega) hr _ B4.out)
    have HS6 := Lib.hid (fun wx => specParse_any t wx v ok (by omega) hr)
    clear hb4 hr
    go_wp2_with fail
    refine HI5.out.mono ?_
    rintro e w5 ⟨rfl, hb5⟩
    have B5 := Lib.hid (below_tr B4.out hb5 B4.out.size)
    clear hb5
    go_wp2_with fail
    refine (HS6.out _).mono ?_
    rintro e w6 ⟨rfl, hd6⟩
    have B6 := Lib.hid (B5.out.trans (hd6.below _))
    clear hd6
    go_wp2_with fail
    refine (drawAppend_any A n c _ (HC.out.below B6.out) hn2).mono ?_
    rintro e w7 ⟨x, hx, rfl, hb7⟩
    have B7 := Lib.hid (below_tr B6.out hb7 B6.out.size)
    have HI8 := Lib.hid (implAppend_any x _ (by omega) (HT.out _ B7.out))
    have HS9 := Lib.hid (fun wx => specAppend_any x wx (by omega))
    have hQ1 : appOk x = false → appStr x = ⟨#[]⟩ := app_no
    have hQ2 : appOk x = true → appStr x = sealB x := fun hok => (app_yes (app_bound hok).2.1 (app_bound hok).2.2).2
    have HQ := Lib.hid (show appOk x = true → appOk x = true from id)
    obtain ⟨Y, hY⟩ : ∃ Y, appStr x = Y := ⟨_, rfl⟩
    obtain ⟨Q, hQ⟩ : ∃ Q, appOk x = Q := ⟨_, rfl⟩
    rw [hY, hQ] at HI8 HS9
    rw [hY, hQ] at hQ1 hQ2
    have HQ := Lib.hid hQ
    clear hb7 hY hQ
    go_wp2_with fail
    refine HI8.out.mono ?_
    rintro e w8 ⟨rfl, hb8⟩
    have B8 := Lib.hid (below_tr B7.out hb8 B7.out.size)
    clear hb8
    go_wp2_with fail
    refine (HS9.out _).mono ?_
    rintro e w9 ⟨rfl, hd9⟩
    have B9 := Lib.hid (B8.out.trans (hd9.below _))
    have t1 : (!(S.toList == S.toList)) = false := by rw [str_eq rfl]; rfl
    have t2 : (!(Y.toList == Y.toList)) = false := by rw [str_eq rfl]; rfl
    have t3 : (P != P) = false := by simp
    have t4 : (ok != ok) = false := by simp
    have t5 : (Q != Q) = false := by simp
    have t6 : (v != v) = false := by simp
    clear hd9
    go_wp2_with fail
    refine (HP2.out _ B9.out).mono ?_
    rintro e w10 ⟨rfl, hb10⟩
    have B10 := Lib.hid (below_tr B9.out hb10 B9.out.size)
    clear hb10
    have t7 : (v2 != v2) = false := by simp
    have t8 : ((⟨#[]⟩ : ByteArray).toList == (⟨#[]⟩ : ByteArray).toList) = true := str_eq rfl
    have hpv : P = false ∨ (P = true ∧ v2 = m ∧ ok2 = true) := by
      cases P
      · exact .inl rfl
      · exact .inr ⟨rfl, hfo rfl⟩
    clear hfo
    cases Q
    · obtain rfl := hQ1 rfl
      rcases hpv with rfl | ⟨rfl, rfl, rfl⟩
      · go_wp2
        go_ret
        exact ⟨rfl, B10.out⟩
      · go_wp2
        go_ret
        exact ⟨rfl, B10.out⟩
    · obtain rfl := hQ2 rfl
      have hb := app_bound HQ.out
      have hz := seal_size x
      have hV1 := fun wx (hx : Below w.heap.size w wx) => implVer_seal x HQ.out wx (HT.out wx hx)
      have hV2 := fun k a z hk hz wx (hx : Below w.heap.size w wx) => implVer_spoilt x HQ.out k a z hk hz wx (HT.out wx hx)
      obtain ⟨Z, hZ⟩ : ∃ Z, sealB x = Z := ⟨_, rfl⟩
      rw [hZ] at hb hz hV1 hV2 t2 ⊢
      obtain ⟨N, hN⟩ : ∃ N, Z.size = N := ⟨_, rfl⟩
      have hN1 : 0 < N := by omega
      have hN2 : N ≤ 4000 := by omega
      have hN3 : ((N : Int) == 0) = false := by rw [beq_eq_false_iff_ne]; omega
      have KV1 := Lib.hid hV1
      have KV2 := Lib.hid hV2
      have HN := Lib.hid hN
      clear hb hz hV1 hV2 hQ1 hQ2 HQ hZ hN HI HS HP2 HI5 HS6 HI8 HS9 HV HP
      rcases hpv with rfl | ⟨rfl, rfl, rfl⟩
      all_goals
        go_wp2_with fail
        refine (KV1.out _ B10.out).mono ?_
        rintro e w11 ⟨rfl, hb11⟩
        have B11 := Lib.hid (below_tr B10.out hb11 B10.out.size)
        obtain ⟨cap, V, hcv, hby, hVs, hVb, hcap⟩ := conv_bytes w11 Z
        have B12 := Lib.hid (below_tr B11.out hVb B11.out.size)
        have hw11 := B11.out.size
        obtain ⟨g, hg⟩ : ∃ g, w11.heap.size = g := ⟨_, rfl⟩
        rw [hg] at hcv hby hw11
        rw [HN.out] at hcv hcap
        have HY := Lib.hid hby
        clear hb11 hby hVs hVb hg
        go_wp2_with fail
        refine (vAt_any A n c 9 _ (HC.out.below B12.out) hn2 (by omega)).mono ?_
        rintro e w12 ⟨r, rfl, hr0, hr1, hd12⟩
        obtain ⟨q, rfl⟩ := Int.eq_ofNat_of_zero_le hr0
        have B13 := Lib.hid (B12.out.trans (hd12.below _))
        have HY2 := Lib.hid (HY.out.drew hd12)
        have hmod : Int.tmod (q : Int) (N : Int) = ((q % N : Nat) : Int) := rfl
        obtain ⟨k, hk⟩ : ∃ k, q % N = k := ⟨_, rfl⟩
        have hkN : k < N := by rw [← hk]; exact Nat.mod_lt _ hN1
        obtain ⟨a, ha⟩ := at_lt Z.data.toList (k := k) (by rw [data_len, HN.out]; exact hkN)
        obtain ⟨hcell, hfroz⟩ := HY2.out k a ha
        have HA := Lib.hid ha
        rw [hk] at hmod
        have ha256 : (a.toNat : Int) < 256 := by have := a.toNat_lt; omega
        clear hd12 hk ha HY
        go_wp2_with fail
        have HVS := Lib.hid (vAt_spoil (c := c) (HC.out.below B13.out) hn2 HY2.out HA.out)
        go_region_with (go_at_call 19; refine (HVS.out _ (by first | exact ⟨1, rfl⟩ | exact ⟨0, rfl⟩)).mono ?_; rintro e w13 ⟨q2, d, z, rfl, hm2, hd255, hne, hx, hcell13, hfr13, hby13, hd13⟩)
        all_goals
          try rw [hx]
          have hbk := conv_back Z k g cap N z HN.out (w13.setCell ⟨g, k, none⟩ (.int .u8 (z.toNat : Int))) (hby13.set HA.out _ rfl)
          have hb14 : Below w.heap.size w (w13.setCell ⟨g, k, none⟩ (.int .u8 (z.toNat : Int))) := (B13.out.trans (hd13.below _)).setCell (p := ⟨g, k, none⟩) hw11 _
          obtain ⟨V2, hV2⟩ : ∃ V2, w13.setCell ⟨g, k, none⟩ (.int .u8 (z.toNat : Int)) = V2 := ⟨_, rfl⟩
          rw [hV2] at hbk hb14 ⊢
          have HB14 := Lib.hid hb14
          have HE := Lib.hid (KV2.out k a z HA.out hne V2 hb14)
          have t9 : (x.toList == x.toList) = true := str_eq rfl
          obtain ⟨U, hU⟩ : ∃ U, spoilt Z k z = U := ⟨_, rfl⟩
          rw [hU] at hbk HE
          clear hby13 hb14 hV2 hcell13 hfr13 hx hm2 hd13 hU hcell hfroz hcv hmod HVS HY2 HA KV1 KV2
          go_wp2_with fail
          refine HE.out.mono ?_
          rintro e w15 ⟨rfl, hb15⟩
          have B15 := Lib.hid (below_tr HB14.out hb15 HB14.out.size)
          clear hb15
          go_wp2
          go_ret
          exact ⟨rfl, B15.out⟩

theorem laid_met (os : Os) : laidMet Tryd.prog Rows.fnStringsRow.laid ((laidWorldE os).forCall (fun _ _ => 0) ⟨#[], #[.slice none 0 0], []⟩).memory :=
  laidMet_of_run' 8 (by kernel_rfl) (by kernel_rfl)
theorem reads (os : Os) {H : Type} (enc : TypeId × Value → H) : ∃ places, DataW.whole enc Tryd.prog ((laidWorldE os).forCall (fun _ _ => 0) ⟨#[], #[.slice none 0 0], []⟩).memory Tryd.f3.params.toList Rows.fnStringsSpec.vars false #[Value.slice none 0 0].toList 8 = some ([.nil], [], places) :=
  ⟨[], by kernel_rfl⟩

set_option maxRecDepth 100000 in
theorem lifted (os : Os) (started : os.Started) (H : Type) (enc : TypeId × Value → H) (F : Stop.Interp) :
    ReturnsInHanded {} Tryd.checked os 3 .any ((OpenSpec.ofChange Rows.fnStringsSpec).preRow enc Tryd.prog Tryd.f3 Rows.fnStringsRow.domain false Rows.fnStringsRow.laid) (((OpenSpec.ofChange Rows.fnStringsSpec).at F).post enc Tryd.prog Tryd.f3 false true false false) := by
  obtain ⟨places, hx⟩ := reads os enc
  refine returnsInHanded_of_row (C := Tryd.checked) (s := OpenSpec.ofChange Rows.fnStringsSpec) own started (by kernel_rfl) Tryd.func3
    (witness_row_at (enc := enc) (C := Tryd.checked) false (laidWorldE os) #[.slice none 0 0] rfl (by kernel_rfl) (by kernel_rfl) (by kernel_rfl)
      (OpenSpec.preRow_of_cond 8 hx (by kernel_rfl) (fun k hk => by cases hk) (by kernel_rfl) (laid_met os))) ?_
  intro W base args ds gs before hval0 hW _ _ _ hL _ _
  have hval : ∀ (j : Nat) t v, Tryd.f3.params[j]? = some t → args[j]? = some v → Value.okWide Tryd.prog W .any base t v := hval0
  have hW' := hW
  obtain ⟨p, q, hA0, hV, rfl, hfz, hnd⟩ := hW
  have hA : DataW.TrodAll enc Tryd.prog W 0 (fun _ => true) true Tryd.f3.params.toList args.toList ds p := hA0
  rw [Tryd.params3] at hA hval
  obtain ⟨v0, d0, rfl, rfl, h0⟩ := trodAll_one hA
  obtain ⟨rfl, rfl⟩ := trodVars_none hV
  obtain ⟨A0, l0, c0, rfl, hrd0, hlc0, hc0, hwf0⟩ := open_ints_rd Tryd.underlying22 Tryd.underlying5 (by kernel_rfl) (hval 0 22 v0 rfl rfl) h0
  clear hA0 hval0
  refine (walk l0 A0 c0 W hrd0 hlc0 hc0 hwf0 (table_of hL) (errs_of hL)).mono fun e W' ⟨he, hb⟩ => ?_
  subst he
  exact ⟨_, rfl, law_post (s := Rows.fnStringsSpec) laidOut (by kernel_rfl) (by rfl) Tryd.underlying4 rfl (fun xs hx => by match xs, hx with | [_], _ => rfl) hW' hb⟩

theorem said : Rows.FnStringsSaid :=
  OpenClaim.holds_of_cond 3 Tryd.f3 rfl rfl rfl rfl rfl rfl rfl ⟨rfl, rfl, rfl, rfl, rfl⟩ rfl rfl rfl rfl rfl (by kernel_rfl) Tryd.func3 (by kernel_rfl)
    (of_decide_eq_true (by kernel_rfl)) (by unfold Func.isWrapper; first | (rw [if_pos (by decide +kernel)]; kernel_rfl) | (rw [if_neg (by decide +kernel)]; exact ⟨rfl, rfl⟩))
    (fun os started H enc _ F => by rw [OpenClaim.pre_eq_preRow]; exact lifted os started H enc F)

theorem plain (f : FuncId) (fn : Func) (hf : Tryd.pinned.checked.prog.funcNamed "loop.example/g01111/laws.FnStrings" = some f) (hfn : Tryd.pinned.checked.prog.funcs[f]? = some fn) :
    true = Tryd.pinned.checked.prog.looks [] ∧ ∀ (j : Nat) t, fn.params[j]? = some t → Tryd.pinned.checked.prog.wantsStandIn t = false := by
  obtain rfl : f = 3 := Option.some.inj ((show Tryd.prog.funcNamed "loop.example/g01111/laws.FnStrings" = some 3 by kernel_rfl).symm.trans hf) |>.symm
  obtain rfl : fn = Tryd.f3 := (Option.some.inj (Tryd.func3.symm.trans hfn)).symm
  refine ⟨by kernel_rfl, fun j t ht => ?_⟩
  rw [Tryd.params3] at ht
  obtain rfl : t = 22 := by simpa using Array.mem_of_getElem? ht
  exact (show Tryd.prog.wantsStandIn 22 = false by kernel_rfl)

theorem proved : Rows.FnStringsCardSaid :=
  Claim7.holds_tied_plain_at .later [] _ _ _ _ said (fun _ h => by cases h) (by kernel_rfl) (fun _ h => by cases h) fnStrings_row_tie rfl ⟨rfl, rfl⟩ (by kernel_rfl) rfl plain (by kernel_rfl)
end Go.Proofs.YtofcnabpfdnohaaDoor.strings
