/- A string's bytes as a new row, one of them changed, and back. -/
import Derived.Test.YtofcnabpfdnohaaDoorHead
import Derived.Test.YtofcnabpfdnohaaDoorMem
import Derived.Test.YtofcnabpfdnohaaDoorDrawsS
namespace Go.Proofs.YtofcnabpfdnohaaDoor
open Go.RowKit
set_option linter.unusedVariables false

/-- The bytes of Z lie in block g, and may be written. -/
def BytesAt (w : World) (g : Nat) (l : List UInt8) : Prop := ∀ (j : Nat) (b : UInt8), l[j]? = some b → w.cell? ⟨g, j, none⟩ = some (.int .u8 (b.toNat : Int)) ∧ w.frozen? ⟨g, j, none⟩ = false
theorem BytesAt.drew {w w' : World} {g : Nat} {l : List UInt8} (h : BytesAt w g l) (hd : Drew w w') : BytesAt w' g l := by
  obtain ⟨n, rfl⟩ := hd; exact h

theorem conv_bytes (w : World) (Z : ByteArray) : ∃ (cap : Nat) (V : World),
    (convert 9 22 (.string Z)).run Tryd.prog w = .ok (.slice (some ⟨w.heap.size, 0, none⟩) Z.size cap) V ∧ BytesAt V w.heap.size Z.data.toList ∧ V.heap.size = w.heap.size + 1 ∧ Below w.heap.size w V ∧ Z.size ≤ cap := by
  refine ⟨_, _, run_bytes_of_string (P := Tryd.prog) w 9 22 5 Z Tryd.underlying9 Tryd.underlying22 Tryd.underlying5, fun j b hj => ?_, by simp, ?_, grownCap_ge _ _ _ _⟩
  · have hlt : j < Z.data.size := by
      have := (List.getElem?_eq_some_iff.1 hj).1
      simpa using this
    have he : Z.data[j] = b := by
      have h := hj
      rw [List.getElem?_eq_getElem (by simpa using hlt)] at h
      have := Option.some.inj h
      simpa using this
    refine ⟨?_, ?_⟩
    · have h1 := World.cell?_alloc_mark w.drew (bytesRow Z (grownCap w Z.size 0 5)) 5 ((bytesRow Z (grownCap w Z.size 0 5)).size, (bytesRow Z (grownCap w Z.size 0 5)).size + 1) j
      have h2 := bytesRow_at Z (grownCap w Z.size 0 5) j hlt
      rw [he] at h2
      exact h1.trans h2
    · have h1 := World.frozen?_alloc_mark w.drew (bytesRow Z (grownCap w Z.size 0 5)) 5 (bytesRow Z (grownCap w Z.size 0 5)).size ((bytesRow Z (grownCap w Z.size 0 5)).size + 1) j
      refine h1.trans ?_
      have : j < (bytesRow Z (grownCap w Z.size 0 5)).size := by rw [bytesRow, Array.size_append, Array.size_map]; omega
      simp; omega
  · exact (show Below w.heap.size w w.drew from below_drewN w.heap.size w 1).alloc (Nat.le_refl _) _

theorem BytesAt.set {w : World} {g : Nat} {l : List UInt8} (h : BytesAt w g l) {k : Nat} {a z : UInt8} (hk : l[k]? = some a) (v : Int) (hv : v = z.toNat) :
    ∀ (j : Nat) (b : UInt8), (l.set k z)[j]? = some b → (w.setCell ⟨g, k, none⟩ (.int .u8 v)).cell? ⟨g, j, none⟩ = some (.int .u8 (b.toNat : Int)) := by
  intro j b hj
  subst hv
  by_cases e : j = k
  · subst e
    rw [List.getElem?_set_self (List.getElem?_eq_some_iff.1 hk).1] at hj
    obtain rfl := Option.some.inj hj
    exact World.cell?_setCell_same _ _ _ (h j a hk).1
  · rw [List.getElem?_set_ne (Ne.symm e)] at hj
    rw [World.cell?_setCell_other _ _ _ _ (by simp)]
    exact (h j b hj).1

theorem conv_back (Z : ByteArray) (k g cap N : Nat) (z : UInt8) (hN : Z.size = N) (w : World)
    (h : ∀ (j : Nat) (b : UInt8), (Z.data.toList.set k z)[j]? = some b → w.cell? ⟨g, j, none⟩ = some (.int .u8 (b.toNat : Int))) :
    (convert 22 9 (.slice (some ⟨g, 0, none⟩) N cap)).run Tryd.prog w = .ok (.string (spoilt Z k z)) w := by
  have hl : (Z.data.toList.set k z).length = N := by rw [List.length_set, data_len, hN]
  have := run_convert_bytes_back (P := Tryd.prog) w 22 9 5 ⟨g, 0, none⟩ cap (Z.data.toList.set k z) Tryd.underlying22 Tryd.underlying5 Tryd.underlying9 (fun j hj => by
    rw [Go.WideShapes.add_plain, Nat.zero_add]
    exact h j _ (List.getElem?_eq_getElem hj))
  rw [hl] at this
  exact this
theorem setCell_below (w : World) (B g k : Nat) (v : Value) (hB : B ≤ g) : Below B w (w.setCell ⟨g, k, none⟩ v) :=
  ⟨rfl, rfl, rfl, by simp [World.setCell], fun j hj => Below.heap_setCell _ _ _ _ (by show j ≠ g; omega)⟩

/-- The byte that the law writes. -/
theorem xor_byte (a : UInt8) (q : Nat) : ∃ z : UInt8, a ≠ z ∧ bits .xor .u8 (a.toNat : Int) (1 + ((q % 255 : Nat) : Int)) = (z.toNat : Int) := by
  obtain ⟨z, h1, h2, h3⟩ := xor_ne a.toNat (1 + q % 255) a.toNat_lt (by omega) (by omega)
  refine ⟨UInt8.ofNat z, fun e => h3 ?_, ?_⟩
  · rw [e]; simp; omega
  · have : ((1 + q % 255 : Nat) : Int) = 1 + ((q % 255 : Nat) : Int) := by omega
    rw [← this, h1]
    simp; omega

theorem vAt_spoil {A : Option Addr} {n c g k : Nat} {w : World} {l : List UInt8} {a : UInt8} (h : CodeIs w A n) (hn : n ≤ 65536) (hy : BytesAt w g l) (ha : l[k]? = some a) : ∀ w1, Drew w w1 →
    Calls Tryd.prog 19 #[.slice A n c, .int .i64 10] w1 fun e w' => ∃ (q d : Nat) (z : UInt8), e = .returned (.int .i64 q) ∧ Int.tmod (q : Int) 255 = (d : Int) ∧ d < 255 ∧ a ≠ z ∧ bits .xor .u8 (a.toNat : Int) (IntKind.u8.wrap (IntKind.i64.wrap (1 + (d : Int)))) = (z.toNat : Int) ∧
      w'.cell? ⟨g, k, none⟩ = some (.int .u8 (a.toNat : Int)) ∧ w'.frozen? ⟨g, k, none⟩ = false ∧ BytesAt w' g l ∧ Drew w w' := by
  intro w1 hd1
  refine (vAt_any A n c 10 w1 (h.below (hd1.below _)) hn (by omega)).mono ?_
  rintro e w' ⟨r, rfl, h0, h1, hd⟩
  obtain ⟨q, rfl⟩ := Int.eq_ofNat_of_zero_le h0
  obtain ⟨z, hne, hx⟩ := xor_byte a q
  have hby := hy.drew (hd1.trans hd)
  obtain ⟨hc, hf⟩ := hby k a ha
  have hlt : q % 255 < 255 := by omega
  refine ⟨q, q % 255, z, rfl, rfl, hlt, hne, ?_, hc, hf, hby, hd1.trans hd⟩
  have e1 : IntKind.i64.wrap (1 + ((q % 255 : Nat) : Int)) = 1 + ((q % 255 : Nat) : Int) := by rw [IntKind.wrap_i64]; omega
  have e2 : IntKind.u8.wrap (1 + ((q % 255 : Nat) : Int)) = 1 + ((q % 255 : Nat) : Int) := by rw [IntKind.wrap_u8]; omega
  rw [e1, e2]
  exact hx
end Go.Proofs.YtofcnabpfdnohaaDoor
