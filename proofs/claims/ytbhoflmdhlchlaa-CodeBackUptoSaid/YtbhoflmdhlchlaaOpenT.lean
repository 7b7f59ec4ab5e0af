/- OPENING STEPS THAT CAME IN, WITH A BOUND ON THEIR BULK, of our own. -/
import Derived.Test.YtbhoflmdhlchlaaOpenU
import Derived.Test.YtbhoflmdhlchlaaOpenS
import Derived.Test.YtbhoflmdhlchlaaStep5
namespace Go.Proofs.Ytbhoflmdhlchlaa
open Go Go.ChangeShapes Go.WideShapes Go.ChangeAt Go.RowKit
set_option linter.unusedVariables false
set_option linter.unusedSimpArgs false
set_option linter.unusedVariables false
set_option linter.unusedSimpArgs false
section
variable {H : Type} {enc : TypeId × Value → H} {W : World} {base : Nat}
theorem open_step_cells_d (n : Nat) (cs : List Value) (y : DataW H × List MemPlace) (hf : DataW.trod enc Try.prog W base (fun _ => true) true n 55 cs = some y) (hs : ∀ q ∈ y.1.weights Try.prog 55, q ≤ reachBytes) :
    ∃ a : UInt8 × List UInt8, stepEl.rd none W cs a ∧ GoodS a ∧ a.2.length + 3 ≤ Rows.uptoBulk y.1 := by
  obtain ⟨y0, y1, m, hx, hl, h0, h1⟩ := trod_struct2 Try.underlying55 hf
  rw [hx] at hs
  dsimp only at h0 h1 hs
  rw [cells_u8o] at h0
  rw [cells_bytes] at h1
  rw [cells_step] at hl
  obtain ⟨a, e0, -, w0⟩ := DataW.trod_int Try.underlying5 h0
  obtain ⟨A, l, c, e1, hr, hb, hbk⟩ := open_sl_d Try.underlying23 Try.underlying5 cells_u8o bytes_u8o h1 (sized_field Try.underlying55 hs (j := 1) rfl rfl)
  have hw := wf_u8 w0
  refine ⟨(UInt8.ofNat a.toNat, l), ⟨.slice A l.length c, ?_, hr, fun _ q hq => by cases hq⟩, hb, ?_⟩
  rotate_left
  focus
    rw [hx]
    have h1 := bulk_one y0.1
    simp only [Rows.uptoBulk, Rows.uptoBulkAll]
    omega
  have hc := cut_next cs 0 1
  rw [e0, Nat.zero_add, cut_next cs 1 1, e1, cut_end cs 2 hl] at hc
  have hv : ((UInt8.ofNat a.toNat).toNat : Int) = a := by rw [UInt8.toNat_ofNat']; omega
  rw [hv]
  simpa using hc
theorem open_steps_d {ts : List TypeId} {ds : List (DataW H)} {j : Nat} {t : TypeId} {v : Value} {d : DataW H} {p : List MemPlace} {b0 : Nat} {r : Reach} (ht : Try.prog.underlying t = some (.slice 55))
    (hv : Value.okWide Try.prog W r b0 t v) (h : DataW.Trod enc Try.prog W base (fun _ => true) true t v d p)
    (hsz : (DataW.weightsEach Try.prog ts ds).all (· ≤ reachBytes) = true) (hts : ts[j]? = some t) (hds : ds[j]? = some d) :
    ∃ es : List Step, RdE stepEl W v es ∧ (∀ a ∈ es, a.2.length ≤ 140737488351232) ∧ bulkS es ≤ Rows.uptoBulk d :=
  open_els_d stepEl (fun a => a.2.length + 3) GoodS ht cells_step open_step_cells_d hv h hsz hts hds
end
end Go.Proofs.Ytbhoflmdhlchlaa
