/- What the rows' lists of the two sentinels give, and one start that meets them. -/
import Derived.Test.YtofcnabpfdnohaaDoorLaid
namespace Go.Proofs.YtofcnabpfdnohaaDoor
open Go.ChangeShapes Go.WideShapes Go.ChangeAt Go.RowKit
set_option linter.unusedVariables false

theorem gES : Tryd.prog.globalNamed "strconv.ErrSyntax" = some 0 := by kernel_rfl
theorem gESType : (Tryd.prog.globals[0]?).map (·.type) = some 46 := by kernel_rfl
theorem gER : Tryd.prog.globalNamed "strconv.ErrRange" = some 1 := by kernel_rfl
theorem gERType : (Tryd.prog.globals[1]?).map (·.type) = some 46 := by kernel_rfl
theorem cellsES : Tryd.prog.cellsOf 95 = 1 := by kernel_rfl
theorem cellsStr : Tryd.prog.cellsOf 9 = 1 := by kernel_rfl
theorem starES : "*" ++ "errors.errorString" = "*errors.errorString" := by decide
theorem rowES (u : TypeId) (h : Tryd.prog.typeName? 3 u = some "*errors.errorString") : u = 93 :=
  typeName_ptr_named (nm := "errors.errorString") (by rw [starES]; kernel_rfl) (by kernel_rfl) (by decide) u (by rw [starES]; exact h)

/-- The row's five variables: the fourth is ErrRange, the fifth ErrSyntax. -/
theorem errs_of {d1 d2 d3 : String × DataW Unit} {W : World}
    (h : laidMet Tryd.prog (d1 :: d2 :: d3 :: ("strconv.ErrRange", Rows.laid_strconv_ErrRange) :: ("strconv.ErrSyntax", Rows.laid_strconv_ErrSyntax) :: []) W) :
    (∃ p, W.var? Tryd.prog "strconv.ErrRange" = some #[.iface 93 p]) ∧ (∃ p, W.var? Tryd.prog "strconv.ErrSyntax" = some #[.iface 93 p]) := by
  obtain ⟨a0, s0, hv0, _, _, _⟩ := laid_sentinel h.tail.tail.tail gER gERType Tryd.underlying46 rowES Tryd.underlying93 Tryd.underlying95 rfl rfl Tryd.underlying9 cellsES cellsStr
  obtain ⟨a1, s1, hv1, _, _, _⟩ := laid_sentinel h.tail.tail.tail.tail gES gESType Tryd.underlying46 rowES Tryd.underlying93 Tryd.underlying95 rfl rfl Tryd.underlying9 cellsES cellsStr
  exact ⟨⟨_, hv0⟩, ⟨_, hv1⟩⟩

theorem var_below {P : Program} {w wx : World} {n : String} {cs : Array Value} (hx : Below w.heap.size w wx) (h : w.var? P n = some cs) : wx.var? P n = some cs := by
  unfold World.var? at h ⊢
  cases hg : P.globalNamed n with
  | none => rw [hg] at h; cases h
  | some g =>
    rw [hg] at h
    simp only [Option.bind_some] at h ⊢
    have hlt : g < w.heap.size := by
      rcases Nat.lt_or_ge g w.heap.size with h1 | h1
      · exact h1
      · rw [Array.getElem?_eq_none h1] at h; cases h
    rw [hx.block g hlt]
    exact h

def synS : ByteArray := { data := #[105, 110, 118, 97, 108, 105, 100, 32, 115, 121, 110, 116, 97, 120] }
def rngS : ByteArray := { data := #[118, 97, 108, 117, 101, 32, 111, 117, 116, 32, 111, 102, 32, 114, 97, 110, 103, 101] }
/-- So many blocks has the settled world. -/
noncomputable def low : Nat := (World.holding Tryd.prog default ⟨#[], #[], []⟩).heap.size
/-- The settled world with the tables laid, and two blocks more, each an errors.errorString; ErrSyntax and ErrRange hold pointers to them. -/
noncomputable def laidWorldE (os : Os) : World :=
  let w0 := World.holding Tryd.prog os ⟨#[.cells #[.string synS] 95, .cells #[.string rngS] 95], #[], []⟩
  { w0 with heap := ((((w0.heap.modify 2 (putCells (p10.map fun z => Value.int .u64 z).toArray)).modify 4 (putCells (db32.map fun z => Value.int .u8 z).toArray)).modify 5 (putCells (db64.map fun z => Value.int .u8 z).toArray)).modify 0 (putCells #[.iface 93 (.pointer (some ⟨low, 0, none⟩))])).modify 1 (putCells #[.iface 93 (.pointer (some ⟨low + 1, 0, none⟩))]) }
end Go.Proofs.YtofcnabpfdnohaaDoor
