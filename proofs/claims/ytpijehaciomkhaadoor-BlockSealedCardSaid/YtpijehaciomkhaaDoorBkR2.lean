/- LAYER 10, the document's: Put. -/
import Derived.Test.YtpijehaciomkhaaDoorBkR1
namespace Go.Proofs.YtpijehaciomkhaaDoor
open Go Go.RowKit
set_option linter.unusedVariables false
set_option linter.unusedSimpArgs false
set_option linter.unusedVariables false
set_option linter.unusedSimpArgs false

theorem preT_len {l : List Txn} (h : ∀ t ∈ l, mayT t = true) (hl : l.length ≤ 16) (k : Nat) : (txsB (l.take k)).length ≤ 128000 := by
  have := txsB_len (l.take k) (fun t ht => h t (List.mem_of_mem_take ht))
  rw [List.length_take] at this
  have h2 : min k l.length * 8000 ≤ 16 * 8000 := Nat.mul_le_mul_right _ (by omega)
  omega
end Go.Proofs.YtpijehaciomkhaaDoor
