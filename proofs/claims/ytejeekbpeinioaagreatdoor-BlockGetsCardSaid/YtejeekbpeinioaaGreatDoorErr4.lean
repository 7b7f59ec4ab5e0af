/- ERRORS THAT WRAP: errors.As, walked: number. -/
import Derived.Test.YtejeekbpeinioaaGreatDoorErr3
namespace Go.Proofs.YtejeekbpeinioaaGreatDoor
open Go Go.RowKit Go.Extern.Stop Go.Stop Go.Extern
set_option linter.unusedVariables false
set_option linter.unusedSimpArgs false
set_option linter.unusedVariables false
set_option linter.unusedSimpArgs false

/-- An error that says n. -/
def ErrV (v : Value) (n : Int) : Prop := v = .iface 33 (.int .i64 n) ∨ ∃ i : Int, v = .iface 96 (.agg #[.int .i64 i, .int .i64 n])
theorem asTo_row {w : World} {g : Nat} {n m : Int} {e : Ending} {w' : World} (h : AsTo (w.alloc (.cells #[.int .i64 m] 33)) ⟨w.heap.size, 0, none⟩ n e w') : e = .returned (.bool true) ∧ Row w' w.heap.size #[.int .i64 n] 33 ∧ Nx w w' := by
  obtain ⟨rfl, w1, h1, rfl⟩ := h
  refine ⟨rfl, ?_, (((Nx.refl w).alloc _).trans h1).setAt _ (Nat.le_refl _)⟩
  have := ((Row.new w #[.int .i64 m] 33 _ rfl).nx h1).set 0 (.int .i64 n)
  exact this
set_option maxRecDepth 100000 in
set_option maxHeartbeats 4000000 in
theorem bnumber_any (v : Value) (n : Int) (w : World) (h : ErrV v n) (hg : EIs w) : Calls Tryz.prog 30 #[v] w fun e w' => e = .returned (.int .i64 n) ∧ Nx w w' := by
  have hg1 := Lib.hid (hg.nx ((Nx.refl w).alloc (.cells #[.int .i64 0] 33)))
  have R := Row.new w #[.int .i64 0] 33 _ rfl
  have c0 := Lib.hid (R.cell (i := 0) (v := .int .i64 0) rfl)
  have f0 := Lib.hid (R.frozen 0)
  clear R
  rcases h with rfl | ⟨i, rfl⟩
  all_goals
    go_enter Tryz.func30, Tryz.ntmps30
    go_wp2_with fail
    first | (with_reducible refine (as_errno n _ _ _ hg1.out c0.out f0.out).mono ?_) | (with_reducible refine (as_fault _ n _ _ _ hg1.out c0.out f0.out).mono ?_)
    intro e w1 hh
    obtain ⟨rfl, R1, n1⟩ := asTo_row (g := 0) hh
    have r1 := R1.cell (i := 0) (v := .int .i64 n) rfl
    clear R1 hh
    have N1 := Lib.hid n1
    clear n1
    go_wp2_with fail
    go_ret
    exact ⟨rfl, N1.out⟩
end Go.Proofs.YtejeekbpeinioaaGreatDoor
