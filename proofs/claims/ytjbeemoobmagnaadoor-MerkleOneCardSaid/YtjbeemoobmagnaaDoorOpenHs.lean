/- OPENING A SLICE OF HASHES THAT CAME IN, of our own. -/
import Derived.Test.YtjbeemoobmagnaaDoorOpenE
import Derived.Test.YtjbeemoobmagnaaDoorHs
import Derived.Test.YtjbeemoobmagnaaDoorGa
namespace Go.Proofs.YtjbeemoobmagnaaDoor
open Go Go.ChangeShapes Go.WideShapes Go.ChangeAt Go.RowKit
set_option linter.unusedVariables false
set_option linter.unusedSimpArgs false
set_option linter.unusedVariables false
set_option linter.unusedSimpArgs false
theorem cells_hashE : Tryd.prog.cellsOf elH.E = elH.k := by kernel_rfl
theorem cells_u8E : Tryd.prog.cellsOf 5 = 1 := by kernel_rfl
section
variable {H : Type} {enc : TypeId × Value → H} {W : World} {base : Nat}
set_option maxRecDepth 100000 in
theorem open_hash_cells (n : Nat) (cs : List Value) (y : DataW H × List MemPlace) (hf : DataW.trod enc Tryd.prog W base (fun _ => true) true n elH.E cs = some y) (hs : ∀ q ∈ y.1.weights Tryd.prog elH.E, q ≤ reachBytes) :
    ∃ a : List UInt8, elH.rd none W cs a ∧ True := by
  obtain ⟨zs, hz, e0, -, hw⟩ := cells_ints Tryd.underlying30 Tryd.underlying5 cells_u8E cells_hashE hf
  obtain ⟨l, hl, he⟩ := hash_of zs hz hw
  refine ⟨l, ⟨hl, ?_⟩, trivial⟩
  rw [e0]
  have : (zs.map (Value.int .u8)).toArray = (bvs l).toArray := he
  simpa using this
set_option maxRecDepth 100000 in
theorem open_hashes {ts : List TypeId} {ds : List (DataW H)} {j : Nat} {t : TypeId} {v : Value} {d : DataW H} {p : List MemPlace} {b0 : Nat} {r : Reach} (ht : Tryd.prog.underlying t = some (.slice 30))
    (hv : Value.okWide Tryd.prog W r b0 t v) (h : DataW.Trod enc Tryd.prog W base (fun _ => true) true t v d p)
    (hsz : (DataW.weightsEach Tryd.prog ts ds).all (· ≤ reachBytes) = true) (hts : ts[j]? = some t) (hds : ds[j]? = some d) :
    ∃ es : Hs, RdE elH W v es := by
  obtain ⟨es, h, _⟩ := open_els elH (fun _ => True) ht cells_hashE open_hash_cells hv h hsz hts hds
  exact ⟨es, h⟩
end
end Go.Proofs.YtjbeemoobmagnaaDoor
