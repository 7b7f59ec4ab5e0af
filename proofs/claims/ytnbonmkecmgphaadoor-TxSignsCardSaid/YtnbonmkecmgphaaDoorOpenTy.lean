/- THE BULK OF A TRANSACTION THAT CAME IN, of our own. -/
import Derived.Test.YtnbonmkecmgphaaDoorOpenTx
namespace Go.Proofs.YtnbonmkecmgphaaDoor
open Go Go.ChangeShapes Go.WideShapes Go.ChangeAt Go.RowKit
set_option linter.unusedVariables false
set_option linter.unusedSimpArgs false
set_option linter.unusedVariables false
set_option linter.unusedSimpArgs false

section
variable {H : Type} {enc : TypeId × Value → H} {W : World} {base : Nat}
theorem bytes_in : Tryd.prog.bytesOf 55 = 64 := by kernel_rfl
theorem ins_bulk {fuel : Nat} {cs : List Value} {y : DataW H × List MemPlace} (hf : DataW.trod enc Tryd.prog W base (fun _ => true) true fuel 22 cs = some y) (hs : ∀ n ∈ y.1.weights Tryd.prog 22, n ≤ reachBytes) (A : Option Addr) (n c : Nat) (hc : cs = [.slice A n c]) : n * 64 ≤ 140737488351232 := by
  rcases Go.Deep.open_slice Tryd.underlying22 hf with ⟨hcs, hx⟩ | ⟨a, len, cap, m, k, D, Pl, hcs, _, hl, hm, hmm, hx, hcell⟩
  · subst hc
    injection hcs with h1 _
    injection h1 with _ h2 _
    subst h2
    decide
  · subst hc
    injection hcs with h1 _
    injection h1 with _ h2 _
    subst h2
    rw [hx] at hs
    have := hs _ (by simp only [DataW.weights, Tryd.underlying22]; exact List.mem_cons_self ..)
    rw [List.length_map, List.length_range, bytes_in] at this
    have h2 : reachBytes = 140737488351232 := by decide
    rw [h2] at this
    omega
theorem tx_bulk {ts : List TypeId} {ds : List (DataW H)} {j : Nat} {iv ov a : Value} {t : Txn} {d : DataW H} {p : List MemPlace}
    (h : DataW.Trod enc Tryd.prog W base (fun _ => true) true 26 (.agg #[iv, ov, a]) d p) (hsz : (DataW.weightsEach Tryd.prog ts ds).all (· ≤ reachBytes) = true) (hts : ts[j]? = some 26) (hds : ds[j]? = some d) (x : TxAt W iv ov t) : t.ins.length * 64 ≤ 140737488351232 := by
  have hs := sized_top hsz hts hds
  obtain ⟨fuel, hf⟩ := h
  obtain ⟨y0, y1, y2, m, hx, hl, h0, h1, h2⟩ := Go.Deep.trod_struct3 Tryd.underlying26 hf
  simp only [Prod.mk.injEq] at hx
  rw [hx.1] at hs
  dsimp only at h0
  rw [cells_ins] at h0
  obtain ⟨A, c, e, -⟩ := x.i.elem
  exact ins_bulk h0 (sized_field Tryd.underlying26 hs (j := 0) rfl rfl) A t.ins.length c (by subst e; rfl)
end
end Go.Proofs.YtnbonmkecmgphaaDoor
