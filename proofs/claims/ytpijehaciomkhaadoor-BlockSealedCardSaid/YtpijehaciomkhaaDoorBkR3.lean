/- LAYER 10, the document's: Ids, Sealed. -/
import Derived.Test.YtpijehaciomkhaaDoorBkR2
import Derived.Test.YtpijehaciomkhaaDoorBk6
namespace Go.Proofs.YtpijehaciomkhaaDoor
open Go Go.RowKit
set_option linter.unusedVariables false
set_option linter.unusedSimpArgs false
set_option linter.unusedVariables false
set_option linter.unusedSimpArgs false

theorem ids_snoc (l : List Txn) (j : Nat) (h : j < l.length) : (l.take (j + 1)).map idH = (l.take j).map idH ++ [idH l[j]] := by
  rw [List.take_succ_eq_append_getElem h, List.map_append]
  rfl
end Go.Proofs.YtpijehaciomkhaaDoor
