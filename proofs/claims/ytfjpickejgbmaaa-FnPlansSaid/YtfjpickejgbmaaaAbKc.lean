/- A Case whose rows grow in a box, beside a draw cursor. -/
import Derived.Test.YtfjpickejgbmaaaAbCur
import Derived.Test.YtfjpickejgbmaaaAbKro
namespace Go.Proofs.Ytfjpickejgbmaaa.Ab
open Go Go.RowKit
set_option linter.unusedVariables false
set_option linter.unusedSimpArgs false

theorem KC.cw {M M' : Mem} {b lo id : Nat} {vs : Nat → Value} {ls : Nat → List Int} {rs : Nat → Nat} (h : KC M b lo vs ls rs) (w : Cw id M M') (hid : id < lo) : KC M' b lo vs ls rs := by
  have hb := (List.getElem?_eq_some_iff.1 h.box).1
  refine ⟨(w.old b (by have := h.lob; omega) hb).trans h.box, h.lob, fun i hi => ?_, h.ge, h.ne⟩
  rcases h.row i hi with h1 | ⟨h1, h3, h2⟩
  · exact .inl h1
  · have := (h.ge i hi h3).1
    exact .inr ⟨h1, h3, w.own h2 (by omega)⟩
end Go.Proofs.Ytfjpickejgbmaaa.Ab
