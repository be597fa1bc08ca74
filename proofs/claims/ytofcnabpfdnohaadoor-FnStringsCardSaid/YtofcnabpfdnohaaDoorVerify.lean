/- The contracts of spec.VerifyChecksum and impl.VerifyChecksum. -/
import Derived.Test.YtofcnabpfdnohaaDoorSeal
import Derived.Test.YtofcnabpfdnohaaDoorImplSplit
import Derived.Test.YtofcnabpfdnohaaDoorL1Split
namespace Go.Proofs.YtofcnabpfdnohaaDoor
open Go.RowKit
set_option linter.unusedVariables false

theorem extract_take (s : ByteArray) (k : Nat) : (s.extract 0 k).data.toList = s.data.toList.take k := by
  simp [ByteArray.data_extract]
theorem cuts_head (s : ByteArray) (b : UInt8) : ∀ k, k ≤ s.size → ((cuts s b k).2 = [] → (cuts s b k).1 = 0 ∧ ∀ (j : Nat), j < k → s.data.toList[j]? ≠ some b) ∧
    (∀ p r, (cuts s b k).2 = p :: r → hasB p.data.toList b = false) := by
  intro k
  induction k with
  | zero => intro _; exact ⟨fun _ => ⟨rfl, fun j h => absurd h (by omega)⟩, fun p r h => by cases h⟩
  | succ k ih =>
    intro hk
    obtain ⟨ih1, ih2⟩ := ih (by omega)
    by_cases hh : s.data.toList[k]? = some b
    · rw [cuts_hit hh]
      refine ⟨fun h => absurd h (by simp), fun p r h => ?_⟩
      simp only at h
      cases hps : (cuts s b k).2 with
      | nil =>
        obtain ⟨h0, hn⟩ := ih1 hps
        rw [hps, h0] at h
        simp only [List.nil_append, List.cons.injEq] at h
        rw [← h.1, extract_take]
        refine hasB_no fun j c hc e => ?_
        subst e
        rw [List.getElem?_take] at hc
        split at hc
        · exact hn j (by omega) hc
        · cases hc
      | cons p' r' =>
        rw [hps] at h
        simp only [List.cons_append, List.cons.injEq] at h
        rw [← h.1]
        exact ih2 p' r' hps
    · rw [cuts_miss hh]
      refine ⟨fun h => ⟨(ih1 h).1, fun j hj => ?_⟩, ih2⟩
      by_cases e : j = k
      · subst e; exact hh
      · exact (ih1 h).2 j (by omega)
/-- The first part. -/
def headOf (s : ByteArray) (b : UInt8) : ByteArray := (splitOf s b).headD ⟨#[]⟩
theorem split_head (s : ByteArray) (b : UInt8) : (splitOf s b)[0]? = some (headOf s b) := by
  have := (splitOf_len s b).2
  unfold headOf
  cases h : splitOf s b with
  | nil => rw [h] at this; simp at this
  | cons p r => rfl
theorem head_no (s : ByteArray) (b : UInt8) : hasB (headOf s b).data.toList b = false := by
  obtain ⟨h1, h2⟩ := cuts_head s b s.size (Nat.le_refl _)
  unfold headOf splitOf
  cases hps : (cuts s b s.size).2 with
  | nil =>
    obtain ⟨h0, hn⟩ := h1 hps
    rw [h0]
    simp only [List.nil_append, List.headD_cons]
    rw [extract_take]
    refine hasB_no fun j c hc e => ?_
    subst e
    rw [List.getElem?_take] at hc
    split at hc
    · rename_i hj; exact hn j hj hc
    · cases hc
  | cons p r =>
    simp only [List.cons_append, List.headD_cons]
    exact h2 p r hps
theorem cuts_sizes (s : ByteArray) (b : UInt8) : ∀ k, k ≤ s.size → ∀ p ∈ (cuts s b k).2, p.size ≤ s.size := by
  intro k
  induction k with
  | zero => intro _ p hp; cases hp
  | succ k ih =>
    intro hk p hp
    by_cases hh : s.data.toList[k]? = some b
    · rw [cuts_hit hh] at hp
      rcases List.mem_append.1 hp with h | h
      · exact ih (by omega) p h
      · rw [List.mem_singleton] at h
        rw [h, ByteArray.size_extract]; omega
    · rw [cuts_miss hh] at hp
      exact ih (by omega) p hp
theorem split_sizes (s : ByteArray) (b : UInt8) : ∀ p ∈ splitOf s b, p.size ≤ s.size := by
  intro p hp
  unfold splitOf at hp
  rcases List.mem_append.1 hp with h | h
  · exact cuts_sizes s b _ (Nat.le_refl _) p h
  · rw [List.mem_singleton] at h
    rw [h, ByteArray.size_extract]; omega
theorem head_size (s : ByteArray) (b : UInt8) : (headOf s b).size ≤ s.size := split_sizes s b _ (List.mem_of_getElem? (split_head s b))

/-- The sign before the checksum. -/
def hash : UInt8 := 35
theorem ver_yes {s : ByteArray} (h : s.size ≤ 4000) (he : sealB (headOf s hash) = s) : appOk (headOf s hash) = true ∧ appStr (headOf s hash) = s := by
  obtain ⟨h1, h2⟩ := app_yes (head_no s hash) (by rw [he]; exact h)
  exact ⟨h1, h2.trans he⟩
theorem ver_no {s : ByteArray} (he : sealB (headOf s hash) ≠ s) (hok : appOk (headOf s hash) = true) : appStr (headOf s hash) ≠ s := by
  obtain ⟨_, h2, h3⟩ := app_bound hok
  rw [(app_yes h2 h3).2]
  exact he

theorem own_head {w : World} {base : Nat} {e : TypeId} {A : Option Addr} {c : Nat} {s : ByteArray} {b : UInt8} (h : w.ownsRow base e 1 (.slice A (splitOf s b).length c) (splitOf s b).length ((splitOf s b).map .string)) :
    ∃ g off, A = some ⟨g, off, none⟩ ∧ w.cell? ⟨g, off, none⟩ = some (.string (headOf s b)) := by
  obtain ⟨g, off, rfl, _, hc⟩ := (Rd.own h).at_ (map_at (f := Value.string) (split_head s b))
  exact ⟨g, off, rfl, hc⟩

theorem l1Split35 (s : ByteArray) (w : World) (hs : s.size ≤ 1048576) : Calls Tryd.prog 36 #[.string s, .int .u8 35] w (OwnStrs (splitOf s hash) w) := by
  have h := l1Split_any s hash w hs
  exact h
theorem implSplit_bad' (s sep : ByteArray) (w : World) (hs : s.size ≤ maxLen) (hsep : sep.size ≤ maxLen) (h : 4000 < s.size ∨ sep.size ≠ 1) :
    Calls Tryd.prog 35 #[.string s, .string sep] w fun e w' => e = .returned (.tuple #[.slice (some ⟨w.heap.size, 0, none⟩) 0 0, .bool false]) ∧ Below w.heap.size w w' :=
  (implSplit_bad s sep w hs hsep h).mono fun e w' ⟨h1, h2⟩ => ⟨h1, by rw [h2]; exact (Below.refl _ _).alloc (Nat.le_refl _) _⟩
theorem implSplit_at (s : ByteArray) (b : UInt8) (hs : s.size ≤ 4000) (w : World) :
    Calls Tryd.prog 35 #[.string s, .string ⟨#[b]⟩] w fun e w' => ∃ A c, e = .returned (.tuple #[.slice A (splitOf s b).length c, .bool true]) ∧ w'.ownsRow w.heap.size 9 1 (.slice A (splitOf s b).length c) (splitOf s b).length ((splitOf s b).map .string) ∧ Below w.heap.size w w' :=
  (callsIn_wide (n := 3)).1 (implSplit_in Fence.wide 3 trivial trivial trivial rfl (Nat.le_refl _) s b hs w)

set_option maxHeartbeats 1000000 in
theorem specVer_long (s : ByteArray) (w : World) (hs : s.size ≤ maxLen) (h : 4000 < s.size) :
    Calls Tryd.prog 20 #[.string s] w fun e w' => e = .returned (.tuple #[.string ⟨#[]⟩, .bool false]) ∧ Below w.heap.size w w' := by
  unfold maxLen at hs
  go_enter Tryd.func20, Tryd.ntmps20
  go_wp2
  go_ret2
  exact ⟨rfl, Below.refl _ _⟩

set_option maxRecDepth 100000 in
set_option maxHeartbeats 1000000 in
theorem specVer_at (s : ByteArray) (w : World) (h : s.size ≤ 4000) (r : ByteArray) (ok : Bool) (hy : sealB (headOf s hash) = s → r = headOf s hash ∧ ok = true) (hn : sealB (headOf s hash) ≠ s → r = ⟨#[]⟩ ∧ ok = false) :
    Calls Tryd.prog 20 #[.string s] w fun e w' => e = .returned (.tuple #[.string r, .bool ok]) ∧ Below w.heap.size w w' := by
  have HS := Lib.hid (fun wx => l1Split35 s wx (by omega))
  have hsz := head_size s hash
  have HL := Lib.hid (fun wx => l1Seal_any (headOf s hash) wx (by omega))
  have hlen := (splitOf_len s hash).2
  by_cases he : sealB (headOf s hash) = s
  · obtain ⟨rfl, rfl⟩ := hy he
    have ht := str_eq he
    clear hy hn he
    go_enter Tryd.func20, Tryd.ntmps20
    go_wp2_with fail
    refine (HS.out _).mono ?_
    rintro e w1 ⟨A, c, rfl, hown, hb1⟩
    obtain ⟨g, off, rfl, hc⟩ := own_head hown
    clear hown
    generalize (splitOf s hash).length = m at *
    go_wp2_with (go_at_call 34; refine (HL.out _).mono ?_; rintro e w2 ⟨rfl, hd2⟩)
    go_ret2
    exact ⟨rfl, hb1.trans (hd2.below _)⟩
  · obtain ⟨rfl, rfl⟩ := hn he
    have ht := str_ne he
    clear hy hn he
    go_enter Tryd.func20, Tryd.ntmps20
    go_wp2_with fail
    refine (HS.out _).mono ?_
    rintro e w1 ⟨A, c, rfl, hown, hb1⟩
    obtain ⟨g, off, rfl, hc⟩ := own_head hown
    clear hown
    generalize (splitOf s hash).length = m at *
    go_wp2_with (go_at_call 34; refine (HL.out _).mono ?_; rintro e w2 ⟨rfl, hd2⟩)
    go_ret2
    exact ⟨rfl, hb1.trans (hd2.below _)⟩

set_option maxHeartbeats 1000000 in
theorem implVer_long (s : ByteArray) (w : World) (hs : s.size ≤ maxLen) (h : 4000 < s.size) :
    Calls Tryd.prog 18 #[.string s] w fun e w' => e = .returned (.tuple #[.string ⟨#[]⟩, .bool false]) ∧ Below w.heap.size w w' := by
  have HS := Lib.hid (fun wx => implSplit_bad' s ⟨#[35]⟩ wx hs (by show 1 ≤ maxLen; unfold maxLen; omega) (.inl h))
  go_enter Tryd.func18, Tryd.ntmps18
  go_wp2_with (go_at_call 35; refine (HS.out _).mono ?_; rintro e w1 ⟨rfl, hb1⟩)
  go_ret2
  exact ⟨rfl, hb1⟩

set_option maxRecDepth 100000 in
set_option maxHeartbeats 1000000 in
theorem implVer_at (s : ByteArray) (w : World) (h : s.size ≤ 4000) (htab : Lib.TabIs Tryd.prog w "internal/strconv.uint64pow10" .u64 Lib.pow10Tab) (r : ByteArray) (ok : Bool) (hy : sealB (headOf s hash) = s → r = headOf s hash ∧ ok = true) (hn : sealB (headOf s hash) ≠ s → r = ⟨#[]⟩ ∧ ok = false) :
    Calls Tryd.prog 18 #[.string s] w fun e w' => e = .returned (.tuple #[.string r, .bool ok]) ∧ Below w.heap.size w w' := by
  have HS := Lib.hid (fun wx => implSplit_at s hash h wx)
  have hsz := head_size s hash
  have HA := fun wx (hx : Below w.heap.size w wx) => implAppend_any (headOf s hash) wx (by omega) (tab_below hx htab)
  have hlen := (splitOf_len s hash).2
  clear htab
  by_cases he : sealB (headOf s hash) = s
  · obtain ⟨rfl, rfl⟩ := hy he
    obtain ⟨e1, e2⟩ := ver_yes h he
    rw [e1, e2] at HA
    have HA2 := Lib.hid HA
    clear hy hn he e1 e2 HA
    go_enter Tryd.func18, Tryd.ntmps18
    go_wp2_with fail
    refine (HS.out _).mono ?_
    rintro e w1 ⟨A, c, rfl, hown, hb1⟩
    obtain ⟨g, off, rfl, hc⟩ := own_head hown
    clear hown
    generalize (splitOf s hash).length = m at *
    go_wp2_with (go_at_call 16; refine (HA2.out _ hb1).mono ?_; rintro e w2 ⟨rfl, hb2⟩)
    go_ret2
    exact ⟨rfl, hb1.trans (hb2.mono hb1.size)⟩
  · obtain ⟨rfl, rfl⟩ := hn he
    cases hok : appOk (headOf s hash) with
    | true =>
      have ht := str_ne (ver_no he hok)
      rw [hok] at HA
      have HA2 := Lib.hid HA
      clear hy hn he hok HA
      go_enter Tryd.func18, Tryd.ntmps18
      go_wp2_with fail
      refine (HS.out _).mono ?_
      rintro e w1 ⟨A, c, rfl, hown, hb1⟩
      obtain ⟨g, off, rfl, hc⟩ := own_head hown
      clear hown
      generalize (splitOf s hash).length = m at *
      go_wp2_with (go_at_call 16; refine (HA2.out _ hb1).mono ?_; rintro e w2 ⟨rfl, hb2⟩)
      go_ret2
      exact ⟨rfl, hb1.trans (hb2.mono hb1.size)⟩
    | false =>
      rw [hok] at HA
      have HA2 := Lib.hid HA
      clear hy hn he hok HA
      go_enter Tryd.func18, Tryd.ntmps18
      go_wp2_with fail
      refine (HS.out _).mono ?_
      rintro e w1 ⟨A, c, rfl, hown, hb1⟩
      obtain ⟨g, off, rfl, hc⟩ := own_head hown
      clear hown
      generalize (splitOf s hash).length = m at *
      go_wp2_with (go_at_call 16; refine (HA2.out _ hb1).mono ?_; rintro e w2 ⟨rfl, hb2⟩)
      go_ret2
      exact ⟨rfl, hb1.trans (hb2.mono hb1.size)⟩

theorem ver_same (s : ByteArray) (hs : s.size ≤ maxLen) : ∃ (r : ByteArray) (ok : Bool),
    (∀ w : World, Calls Tryd.prog 20 #[.string s] w fun e w' => e = .returned (.tuple #[.string r, .bool ok]) ∧ Below w.heap.size w w') ∧
    (∀ w : World, Lib.TabIs Tryd.prog w "internal/strconv.uint64pow10" .u64 Lib.pow10Tab → Calls Tryd.prog 18 #[.string s] w fun e w' => e = .returned (.tuple #[.string r, .bool ok]) ∧ Below w.heap.size w w') := by
  by_cases h : 4000 < s.size
  · exact ⟨⟨#[]⟩, false, fun w => specVer_long s w hs h, fun w _ => implVer_long s w hs h⟩
  · by_cases he : sealB (headOf s hash) = s
    · exact ⟨headOf s hash, true, fun w => specVer_at s w (by omega) _ _ (fun _ => ⟨rfl, rfl⟩) (fun hn => absurd he hn), fun w ht => implVer_at s w (by omega) ht _ _ (fun _ => ⟨rfl, rfl⟩) (fun hn => absurd he hn)⟩
    · exact ⟨⟨#[]⟩, false, fun w => specVer_at s w (by omega) _ _ (fun hy => absurd hy he) (fun _ => ⟨rfl, rfl⟩), fun w ht => implVer_at s w (by omega) ht _ _ (fun hy => absurd hy he) (fun _ => ⟨rfl, rfl⟩)⟩
end Go.Proofs.YtofcnabpfdnohaaDoor
