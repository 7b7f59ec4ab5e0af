/- LAYER 10, the document's: which may be, Put. -/
import Derived.Test.YtpijehaciomkhaaDoorBk4
namespace Go.Proofs.YtpijehaciomkhaaDoor
open Go Go.RowKit
set_option linter.unusedVariables false
set_option linter.unusedSimpArgs false
set_option linter.unusedVariables false
set_option linter.unusedSimpArgs false

theorem kc3 {b o j : Nat} {w wr : World} {A1 A2 : Option Addr} {n1 c1 n2 c2 a : Nat} (hN : Nx w wr) (hb : b < w.heap.size) (hcell : ∀ i u, (tcl (.slice A1 n1 c1) (.slice A2 n2 c2) a)[i]? = some u → w.cell? ⟨b, o + j * 3 + i, none⟩ = some u) :
    wr.cell? ⟨b, o + j * 3, none⟩ = some (.slice A1 n1 c1) ∧ wr.cell? ⟨b, o + j * 3 + 1, none⟩ = some (.slice A2 n2 c2) ∧ wr.cell? ⟨b, o + j * 3 + 2, none⟩ = some (.int .u32 (a : Int)) :=
  ⟨by rw [hN.cell (p := ⟨b, o + j * 3, none⟩) hb]; exact hcell 0 _ rfl, by rw [hN.cell (p := ⟨b, o + j * 3 + 1, none⟩) hb]; exact hcell 1 _ rfl, by rw [hN.cell (p := ⟨b, o + j * 3 + 2, none⟩) hb]; exact hcell 2 _ rfl⟩
end Go.Proofs.YtpijehaciomkhaaDoor
