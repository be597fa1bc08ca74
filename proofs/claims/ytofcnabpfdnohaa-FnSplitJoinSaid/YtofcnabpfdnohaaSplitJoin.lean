/- FnSplitJoin: whatever the code, the law returns true. No condition. -/
import Derived.Test.YtofcnabpfdnohaaBack
import Derived.Test.YtofcnabpfdnohaaShell
import Derived.Test.YtofcnabpfdnohaaOpen
import Derived.ShutString
namespace Go.Proofs.Ytofcnabpfdnohaa.splitJoin
open Go.ChangeShapes Go.WideShapes Go.ChangeAt Go.RowKit
open Go.WideMaps Go.WideElems
open Go.ChangeMaps (open_string shut_string)
set_option linter.unusedVariables false


set_option maxRecDepth 100000 in
set_option maxHeartbeats 4000000 in
theorem walk (l : List Int) (A : Option Addr) (c : Nat) (w : World) (h : Rd w w.heap.size A (l.map (Value.int .u8))) (hlc : l.length ≤ c) (hc : c ≤ maxLen) (hwf : ∀ n ∈ l, IntKind.u8.min ≤ n ∧ n ≤ IntKind.u8.max) :
    Calls Try.prog 3 #[.slice A l.length c] w fun e w' => e = .returned (.bool true) ∧ Below w.heap.size w w' := by
  by_cases hbig : 65536 < l.length
  · have HV := Lib.hid (vBig_yes A l.length c hbig (Nat.le_trans hlc hc))
    clear h hwf
    go_enter Try.func3, Try.ntmps3
    go_wp2_with fail
    refine (HV.out _).mono ?_
    rintro e w1 ⟨rfl, rfl⟩
    go_wp2
    go_ret
    exact ⟨rfl, Below.refl _ _⟩
  · have hcode : CodeIs w A l.length := ⟨l, rfl, h, fun x hx => hwf x hx⟩
    obtain ⟨n, hn⟩ : ∃ n, l.length = n := ⟨_, rfl⟩
    rw [hn] at hcode hbig hlc ⊢
    have hn2 : n ≤ 65536 := by omega
    have HC := Lib.hid hcode
    have HV := Lib.hid (vBig_any A n c hn2)
    clear h hwf hcode hn
    go_enter Try.func3, Try.ntmps3
    go_wp2_with fail
    refine (HV.out _).mono ?_
    rintro e w0 ⟨rfl, rfl⟩
    go_wp2_with fail
    refine (drawSplit_any A n c _ HC.out hn2).mono ?_
    rintro e w1 ⟨s, sep, hs, hsep, rfl, hb1⟩
    have HC1 := Lib.hid (HC.out.below hb1)
    have hw1 := hb1.size
    have B1 := Lib.hid hb1
    obtain ⟨l2, ok, hl2, him, hcase⟩ := split_drawn s sep hs hsep
    have HI := Lib.hid him
    have HK := Lib.hid hcase
    have hsz := texts9_size s hs
    have hsz2 := sep_size sep hsep
    clear hb1 him hcase hs hsep
    go_wp2_with fail
    refine (HI.out _).mono ?_
    rintro e w2 ⟨A2, c2, rfl, own2, hb2⟩
    have R2 := Lib.hid (Rd.own own2)
    have hc2 := own_cap own2
    have HC2 := Lib.hid (HC1.out.below hb2)
    have B2 := Lib.hid (below_tr B1.out hb2 hw1)
    have hw2 := hb2.size
    clear own2 hb2
    go_wp2_with fail
    refine (drawJoin_any A n c _ HC2.out hn2).mono ?_
    rintro e w3 ⟨k, mark, A3, c3, hk5, hks, hmark, rfl, own3, hb3⟩
    have R3 := Lib.hid (Rd.own own3)
    have hc3 := own_cap own3
    have HC3 := Lib.hid (HC2.out.below hb3)
    have R2b := Lib.hid ((R2.out.below hb3).more hb3.size)
    have B3 := Lib.hid (below_tr B2.out hb3 (by omega))
    have hw3 := hb3.size
    have hmz := mark_size mark hmark
    obtain ⟨r, jok, hsj, hij⟩ := joinStrings.join_same k mark (by omega) (fun x hx => Nat.le_trans (hks x hx) (by omega)) (by unfold maxLen; omega)
    have HS := Lib.hid hsj
    have HJ := Lib.hid hij
    clear own3 hb3 hsj hij hks hmark R2
    go_wp2_with fail
    refine (HJ.out A3 c3 _ R3.out hc3).mono ?_
    rintro e w4 ⟨rfl, hb4⟩
    have R3b := Lib.hid (R3.out.below hb4)
    have R2c := Lib.hid ((R2b.out.below hb4).more hb4.size)
    have HC4 := Lib.hid (HC3.out.below hb4)
    have B4 := Lib.hid (below_tr B3.out hb4 (by omega))
    have hw4 := hb4.size
    clear hb4 R3 R2b
    go_wp2_with fail
    refine (HS.out A3 c3 _ _ R3b.out).mono ?_
    rintro e w5 ⟨rfl, hd5⟩
    have R2d := Lib.hid (Rd.more (R2c.out.drawn hd5) (B' := w5.heap.size) (by rw [hd5.size]; omega))
    have HC5 := Lib.hid (HC4.out.below (hd5.below _))
    have B5 := Lib.hid (B4.out.trans (hd5.below _))
    have hw5 : w4.heap.size ≤ w5.heap.size := by rw [hd5.size]; omega
    clear hd5 R2c R3b
    go_wp2_with fail
    refine (drawLess_any A n c _ HC5.out hn2).mono ?_
    rintro e w6 ⟨a, b, ha, hb, rfl, hb6⟩
    have R2e := Lib.hid ((R2d.out.below hb6).more hb6.size)
    have B6 := Lib.hid (below_tr B5.out hb6 (by omega))
    have hw6 := hb6.size
    have hasym := less_asym a b ha hb
    have t1 : (!(r.toList == r.toList)) = false := by rw [str_eq rfl]; rfl
    have t2 : (jok != jok) = false := by simp
    obtain ⟨p, hp⟩ : ∃ p, Op.bytesLess a.toList b.toList = p := ⟨_, rfl⟩
    obtain ⟨q, hq⟩ : ∃ q, Op.bytesLess b.toList a.toList = q := ⟨_, rfl⟩
    have L1 := Lib.hid (implLess_any a b)
    have L2 := Lib.hid (specLess_any a b)
    have L3 := Lib.hid (implLess_any b a)
    rw [hp] at hasym L1 L2
    rw [hq] at hasym L3
    clear hb6 ha hb hp hq
    go_wp2_with fail
    refine (L1.out _).mono ?_
    rintro e w7 ⟨rfl, rfl⟩
    go_wp2_with fail
    refine (L2.out _).mono ?_
    rintro e w8 ⟨rfl, rfl⟩
    have t3 : (p != p) = false := by simp
    go_wp2_with fail
    refine (L1.out _).mono ?_
    rintro e w9 ⟨rfl, rfl⟩
    have finish : (p && q) = false := hasym
    cases p
    · clear hasym finish L1 L2 L3
      rcases HK.out with ⟨hne, rfl, rfl⟩ | ⟨he, rfl, hback⟩
      · have t4 : ((sep.size : Int) != 1) = true := by rw [bne_iff_ne]; omega
        clear HK
        go_wp2
        go_ret
        exact ⟨rfl, B6.out⟩
      · have t4 : ((sep.size : Int) != 1) = false := by rw [he]; rfl
        have HB := Lib.hid (hback A2 c2 _ R2e.out hc2)
        have t5 : (s.toList == s.toList) = true := str_eq rfl
        clear HK hback
        go_wp2_with fail
        refine HB.out.mono ?_
        rintro e w10 ⟨rfl, hb10⟩
        have B10 := Lib.hid (below_tr B6.out hb10 (by omega))
        clear hb10
        go_wp2
        go_ret
        exact ⟨rfl, B10.out⟩
    · obtain rfl : q = false := by simpa using hasym
      clear hasym finish
      go_wp2_with fail
      refine (L3.out _).mono ?_
      rintro e w9b ⟨rfl, rfl⟩
      rcases HK.out with ⟨hne, rfl, rfl⟩ | ⟨he, rfl, hback⟩
      · have t4 : ((sep.size : Int) != 1) = true := by rw [bne_iff_ne]; omega
        clear HK
        go_wp2
        go_ret
        exact ⟨rfl, B6.out⟩
      · have t4 : ((sep.size : Int) != 1) = false := by rw [he]; rfl
        have HB := Lib.hid (hback A2 c2 _ R2e.out hc2)
        have t5 : (s.toList == s.toList) = true := str_eq rfl
        clear HK hback
        go_wp2_with fail
        refine HB.out.mono ?_
        rintro e w10 ⟨rfl, hb10⟩
        have B10 := Lib.hid (below_tr B6.out hb10 (by omega))
        clear hb10
        go_wp2
        go_ret
        exact ⟨rfl, B10.out⟩

set_option maxRecDepth 100000 in
theorem lifted (os : Os) (started : os.Started) (H : Type) (enc : TypeId × Value → H) :
    ReturnsInHanded {} Try.checked os 3 .any (Rows.fnSplitJoinSpec.pre6 enc Try.prog Try.f3 Rows.fnSplitJoinRow.domain false) (Rows.fnSplitJoinSpec.post enc Try.prog Try.f3 false true false false) := by
  refine returnsInHanded_of_change (C := Try.checked) own started (by kernel_rfl) Try.func3
    (ChangeSpec.witness6 (enc := enc) (C := Try.checked) false ⟨#[], #[.slice none 0 0], []⟩ 8 (by kernel_rfl) (by kernel_rfl) (by kernel_rfl) (by kernel_rfl)) ?_
  intro W base args ds gs before hval0 hW hcnd _
  have hval : ∀ (j : Nat) t v, Try.f3.params[j]? = some t → args[j]? = some v → Value.okWide Try.prog W .any base t v := hval0
  have hW' := hW
  obtain ⟨p, q, hA0, hV, rfl, hfz, hnd⟩ := hW
  have hA : DataW.TrodAll enc Try.prog W 0 (fun _ => true) true Try.f3.params.toList args.toList ds p := hA0
  rw [Try.params3] at hA hval
  obtain ⟨v0, d0, rfl, rfl, h0⟩ := trodAll_one hA
  obtain ⟨rfl, rfl⟩ := trodVars_none hV
  obtain ⟨A0, l0, c0, rfl, hrd0, hlc0, hc0, hwf0⟩ := open_ints_rd Try.underlying22 Try.underlying5 (by kernel_rfl) (hval 0 22 v0 rfl rfl) h0
  clear hA0 hval0
  refine (walk l0 A0 c0 W hrd0 hlc0 hc0 hwf0).mono fun e W' ⟨he, hb⟩ => ?_
  subst he
  exact ⟨_, rfl, law_post (s := Rows.fnSplitJoinSpec) laidOut (by kernel_rfl) (by rfl) Try.underlying4 rfl (fun xs hx => by match xs, hx with | [_], _ => rfl) hW' hb⟩

theorem proved : Rows.FnSplitJoinSaid :=
  OpenClaim.holds_of_wide 3 Try.f3 rfl rfl rfl rfl rfl rfl rfl ⟨rfl, rfl, rfl, rfl, rfl⟩ rfl rfl rfl rfl rfl (by kernel_rfl) Try.func3 (by kernel_rfl)
    (of_decide_eq_true (by kernel_rfl)) (by unfold Func.isWrapper; first | (rw [if_pos (by decide +kernel)]; kernel_rfl) | (rw [if_neg (by decide +kernel)]; exact ⟨rfl, rfl⟩))
    (fun os started H enc _ => lifted os started H enc)
end Go.Proofs.Ytofcnabpfdnohaa.splitJoin
