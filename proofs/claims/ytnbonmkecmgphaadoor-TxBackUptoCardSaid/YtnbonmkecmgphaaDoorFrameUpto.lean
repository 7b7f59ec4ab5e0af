/- OPENING A LAW's ARGUMENTS, of our own, where a bound on the bulk is given. -/
import Derived.Test.YtnbonmkecmgphaaDoorRows
import Derived.Test.YtnbonmkecmgphaaDoorTa
namespace Go.Proofs.YtnbonmkecmgphaaDoor
open Go.ChangeShapes Go.WideShapes Go.ChangeAt Go.RowKit

section
variable {H : Type} {enc : TypeId × Value → H} {P : Program} {W : World} {base : Nat}

theorem bulk_one (d : DataW H) : 1 ≤ Rows.uptoBulk d := by
  cases d with
  | lit l => cases l <;> simp [Rows.uptoBulk]
  | _ => simp [Rows.uptoBulk]
theorem bulk_length (l : List (DataW H)) : l.length ≤ Rows.uptoBulkAll l := by
  induction l with
  | nil => simp [Rows.uptoBulkAll]
  | cons x r ih => have := bulk_one x; simp only [Rows.uptoBulkAll, List.length_cons]; omega
theorem bulk_bound {l : List (DataW H)} (hk : Rows.uptoSmall H l = true) : Rows.uptoBulkAll l ≤ 1048576 := of_decide_eq_true hk

theorem open_bytes_elems {ts : List TypeId} {ds : List (DataW H)} {j : Nat} {t : TypeId} {v : Value} {d : DataW H} {p : List MemPlace} {b0 : Nat}
    (ht : P.underlying t = some (.slice 5)) (he : P.underlying 5 = some (.int .u8)) (hc : P.cellsOf 5 = 1) (hby : P.bytesOf 5 = 1)
    (hv : Value.okWide P W .any b0 t v) (h : DataW.Trod enc P W base (fun _ => true) true t v d p)
    (hsz : (DataW.weightsEach P ts ds).all (· ≤ reachBytes) = true) (hts : ts[j]? = some t) (hds : ds[j]? = some d) :
    ∃ l : List UInt8, Rd W v l ∧ l.length ≤ 140737488351232 ∧ l.length ≤ Rows.uptoBulk d := by
  obtain ⟨l, h1, h2, ⟨rfl, rfl⟩ | ⟨elems, spare, rfl, h3⟩⟩ := open_bytes_d ht he hc hby hv h hsz hts hds
  · exact ⟨[], h1, h2, by simp⟩
  · refine ⟨l, h1, h2, ?_⟩
    have := bulk_length elems
    simp only [Rows.uptoBulk]
    omega
end
end Go.Proofs.YtnbonmkecmgphaaDoor
