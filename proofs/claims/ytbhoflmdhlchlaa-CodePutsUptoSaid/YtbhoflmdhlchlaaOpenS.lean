/- OPENING STEPS THAT CAME IN, of our own. -/
import Derived.Test.YtbhoflmdhlchlaaOpenE
import Derived.Test.YtbhoflmdhlchlaaStep
import Derived.Lib.SmallJoins
namespace Go.Proofs.Ytbhoflmdhlchlaa
open Go Go.ChangeShapes Go.WideShapes Go.ChangeAt Go.RowKit
set_option linter.unusedVariables false
set_option linter.unusedSimpArgs false
set_option linter.unusedVariables false
set_option linter.unusedSimpArgs false

theorem cells_u8o : Try.prog.cellsOf 5 = 1 := by kernel_rfl
theorem bytes_u8o : Try.prog.bytesOf 5 = 1 := by kernel_rfl
theorem cells_bytes : Try.prog.cellsOf 23 = 1 := by kernel_rfl
theorem cells_step : Try.prog.cellsOf 55 = 2 := by kernel_rfl
section
variable {H : Type} {enc : TypeId × Value → H} {W : World} {base : Nat}
def GoodS (a : UInt8 × List UInt8) : Prop := a.2.length ≤ 140737488351232
theorem open_step_cells (n : Nat) (cs : List Value) (y : DataW H × List MemPlace) (hf : DataW.trod enc Try.prog W base (fun _ => true) true n 55 cs = some y) (hs : ∀ q ∈ y.1.weights Try.prog 55, q ≤ reachBytes) :
    ∃ a : UInt8 × List UInt8, stepEl.rd none W cs a ∧ GoodS a := by
  obtain ⟨y0, y1, m, hx, hl, h0, h1⟩ := trod_struct2 Try.underlying55 hf
  rw [hx] at hs
  dsimp only at h0 h1 hs
  rw [cells_u8o] at h0
  rw [cells_bytes] at h1
  rw [cells_step] at hl
  obtain ⟨a, e0, -, w0⟩ := DataW.trod_int Try.underlying5 h0
  obtain ⟨A, l, c, e1, hr, hb⟩ := open_sl Try.underlying23 Try.underlying5 cells_u8o bytes_u8o h1 (sized_field Try.underlying55 hs (j := 1) rfl rfl)
  have hw := wf_u8 w0
  refine ⟨(UInt8.ofNat a.toNat, l), ⟨.slice A l.length c, ?_, hr, fun _ q hq => by cases hq⟩, hb⟩
  have hc := cut_next cs 0 1
  rw [e0, Nat.zero_add, cut_next cs 1 1, e1, cut_end cs 2 hl] at hc
  have hv : ((UInt8.ofNat a.toNat).toNat : Int) = a := by rw [UInt8.toNat_ofNat']; omega
  rw [hv]
  simpa using hc
theorem open_steps {ts : List TypeId} {ds : List (DataW H)} {j : Nat} {t : TypeId} {v : Value} {d : DataW H} {p : List MemPlace} {b0 : Nat} {r : Reach} (ht : Try.prog.underlying t = some (.slice 55))
    (hv : Value.okWide Try.prog W r b0 t v) (h : DataW.Trod enc Try.prog W base (fun _ => true) true t v d p)
    (hsz : (DataW.weightsEach Try.prog ts ds).all (· ≤ reachBytes) = true) (hts : ts[j]? = some t) (hds : ds[j]? = some d) :
    ∃ es : List Step, RdE stepEl W v es ∧ ∀ a ∈ es, a.2.length ≤ 140737488351232 :=
  open_els stepEl GoodS ht cells_step open_step_cells hv h hsz hts hds
end
end Go.Proofs.Ytbhoflmdhlchlaa
