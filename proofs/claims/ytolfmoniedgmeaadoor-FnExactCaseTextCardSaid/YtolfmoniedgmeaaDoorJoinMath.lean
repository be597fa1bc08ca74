/- Plain facts on joining byte lists; nothing of the program. -/
import Derived.Test.YtolfmoniedgmeaaDoorPlain
import Derived.WalkKit
import Derived.Lib.Join
namespace Go.Proofs.YtolfmoniedgmeaaDoor
def hasB (s : List UInt8) (b : UInt8) : Bool := s.any (fun c => c == b)
theorem hasB_no {s : List UInt8} {b : UInt8} (h : ∀ (j : Nat) (c : UInt8), s[j]? = some c → c ≠ b) : hasB s b = false := by
  unfold hasB
  rw [List.any_eq_false]
  intro c hc
  obtain ⟨j, hj⟩ := List.mem_iff_getElem?.1 hc
  simpa using h j c hj
theorem hasB_yes {s : List UInt8} {b : UInt8} {j : Nat} (h : s[j]? = some b) : hasB s b = true := by
  unfold hasB
  rw [List.any_eq_true]
  exact ⟨b, List.mem_of_getElem? h, by simp⟩

def canJ (b : UInt8) : Int → List (List UInt8) → Bool
  | _, [] => true
  | room, s :: r => if room - ((s.length : Int) + 1) < 0 then false else if hasB s b = true then false else canJ b (room - ((s.length : Int) + 1)) r

def joinTo (b : UInt8) : Nat → List UInt8 → List (List UInt8) → Option (List UInt8)
  | _, out, [] => some out
  | i, out, s :: r => if hasB s b = true then none else
      if 4000 < ((if 0 < i then out ++ [b] else out) ++ s).length then none else joinTo b (i + 1) ((if 0 < i then out ++ [b] else out) ++ s) r

theorem joinTo_tail (b : UInt8) : ∀ (r : List (List UInt8)) (i : Nat) (out : List UInt8), 0 < i →
    joinTo b i out r = if canJ b (4000 - (out.length : Int)) r = true then some (out ++ Lib.joinTail [b] r) else none
  | [], i, out, _ => by simp [joinTo, canJ, Lib.joinTail]
  | s :: r, i, out, hi => by
    unfold joinTo canJ
    by_cases hb : hasB s b = true
    · rw [if_pos hb]
      by_cases hr : (4000 : Int) - (out.length : Int) - ((s.length : Int) + 1) < 0
      · rw [if_pos hr]; simp
      · rw [if_neg hr, if_pos hb]; simp
    · rw [if_neg hb, if_pos hi]
      have hlen : ((out ++ [b]) ++ s).length = out.length + 1 + s.length := by simp; omega
      by_cases hr : (4000 : Int) - (out.length : Int) - ((s.length : Int) + 1) < 0
      · rw [if_pos hr, if_pos (by omega)]; simp
      · rw [if_neg hr, if_neg hb, if_neg (by omega), joinTo_tail b r (i + 1) _ (by omega)]
        rw [show (4000 : Int) - (((out ++ [b]) ++ s).length : Int) = 4000 - (out.length : Int) - ((s.length : Int) + 1) from by rw [hlen]; omega]
        simp [Lib.joinTail]

theorem joinTo_head (b : UInt8) (s : List UInt8) (r : List (List UInt8)) :
    joinTo b 0 [] (s :: r) = if canJ b 4001 (s :: r) = true then some (Lib.join (s :: r) [b]) else none := by
  unfold joinTo canJ
  rw [if_neg (Nat.lt_irrefl 0), List.nil_append]
  by_cases hb : hasB s b = true
  · rw [if_pos hb]
    by_cases hr : (4001 : Int) - ((s.length : Int) + 1) < 0
    · rw [if_pos hr]; simp
    · rw [if_neg hr, if_pos hb]; simp
  · rw [if_neg hb]
    by_cases hr : (4001 : Int) - ((s.length : Int) + 1) < 0
    · rw [if_pos hr, if_pos (by omega)]; simp
    · rw [if_neg hr, if_neg hb, if_neg (by omega), joinTo_tail b r 1 s (by omega), Lib.join_cons]
      rw [show (4000 : Int) - (s.length : Int) = 4001 - ((s.length : Int) + 1) from by omega]

/-- What can be joined is short. -/
theorem canJ_length (b : UInt8) : ∀ (l : List (List UInt8)) (room : Int), 0 ≤ room → canJ b room l = true → (Lib.lens l : Int) + l.length ≤ room
  | [], room, h0, _ => by simpa [Lib.lens] using h0
  | s :: r, room, h0, h => by
    unfold canJ at h
    by_cases hr : room - ((s.length : Int) + 1) < 0
    · rw [if_pos hr] at h; cases h
    · rw [if_neg hr] at h
      by_cases hb : hasB s b = true
      · rw [if_pos hb] at h; cases h
      · rw [if_neg hb] at h
        have := canJ_length b r _ (by omega) h
        simp only [Lib.lens, List.map_cons, List.sum_cons, List.length_cons] at this ⊢
        omega
theorem canJ_step (b : UInt8) (room : Int) (s : List UInt8) (r : List (List UInt8)) (h1 : ¬ room - ((s.length : Int) + 1) < 0) (h2 : hasB s b = false) : canJ b room (s :: r) = canJ b (room - ((s.length : Int) + 1)) r := by
  rw [canJ, if_neg h1, h2, if_neg (by simp)]
theorem canJ_full (b : UInt8) (room : Int) (s : List UInt8) (r : List (List UInt8)) (h1 : room - ((s.length : Int) + 1) < 0) : canJ b room (s :: r) = false := by
  rw [canJ, if_pos h1]
theorem canJ_has (b : UInt8) (room : Int) (s : List UInt8) (r : List (List UInt8)) (h2 : hasB s b = true) : canJ b room (s :: r) = false := by
  rw [canJ, h2]; split <;> simp
def joinStr (b : UInt8) (L : List (List UInt8)) : ByteArray := if canJ b 4001 L = true then ⟨(Lib.join L [b]).toArray⟩ else ⟨#[]⟩

theorem fin_none {b : UInt8} {L : List (List UInt8)} (hne : L ≠ []) (h : joinTo b 0 [] L = none) : canJ b 4001 L = false := by
  cases L with
  | nil => exact absurd rfl hne
  | cons s r =>
    rw [joinTo_head] at h
    by_cases hc : canJ b 4001 (s :: r) = true
    · rw [if_pos hc] at h; cases h
    · simpa using hc
theorem fin_some {b : UInt8} {L : List (List UInt8)} {o : List UInt8} (hne : L ≠ []) (h : joinTo b 0 [] L = some o) : canJ b 4001 L = true ∧ Lib.join L [b] = o := by
  cases L with
  | nil => exact absurd rfl hne
  | cons s r =>
    rw [joinTo_head] at h
    by_cases hc : canJ b 4001 (s :: r) = true
    · rw [if_pos hc] at h; exact ⟨hc, Option.some.inj h⟩
    · rw [if_neg hc] at h; cases h
theorem joinStr_no {b : UInt8} {L : List (List UInt8)} (h : canJ b 4001 L = false) : joinStr b L = ⟨#[]⟩ := by
  unfold joinStr; rw [h, if_neg (by simp)]
theorem joinStr_yes {b : UInt8} {L : List (List UInt8)} (h : canJ b 4001 L = true) : joinStr b L = ⟨(Lib.join L [b]).toArray⟩ := by
  unfold joinStr; rw [if_pos h]
theorem joinTo_has {b : UInt8} {k : Nat} {o s : List UInt8} {r : List (List UInt8)} (h : hasB s b = true) : joinTo b k o (s :: r) = none := by
  rw [joinTo, if_pos h]
theorem joinTo_long {b : UInt8} {k : Nat} {o s : List UInt8} {r : List (List UInt8)} (h : hasB s b = false) (hl : 4000 < ((if 0 < k then o ++ [b] else o) ++ s).length) : joinTo b k o (s :: r) = none := by
  rw [joinTo, h, if_neg (by simp), if_pos hl]
theorem joinTo_step {b : UInt8} {k : Nat} {o s : List UInt8} {r : List (List UInt8)} (h : hasB s b = false) (hl : ¬ 4000 < ((if 0 < k then o ++ [b] else o) ++ s).length) :
    joinTo b k o (s :: r) = joinTo b (k + 1) ((if 0 < k then o ++ [b] else o) ++ s) r := by
  rw [joinTo, h, if_neg (by simp), if_neg hl]
theorem joinLen {b : UInt8} {L : List (List UInt8)} (h : canJ b 4001 L = true) : (Lib.join L [b]).length ≤ 8002 := by
  have h1 := canJ_length b L 4001 (by omega) h
  cases L with
  | nil => simp [Lib.join_nil]
  | cons s r =>
    rw [Lib.join_length]
    simp only [List.length_cons, List.length_nil] at h1 ⊢
    omega

end Go.Proofs.YtolfmoniedgmeaaDoor
