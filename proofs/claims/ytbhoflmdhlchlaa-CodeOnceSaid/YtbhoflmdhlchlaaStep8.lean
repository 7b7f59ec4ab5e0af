/- LAYER 11: Same of the program, of like steps, its whole. -/
import Derived.Test.YtbhoflmdhlchlaaStep7
namespace Go.Proofs.Ytbhoflmdhlchlaa
open Go Go.RowKit
set_option linter.unusedVariables false
set_option linter.unusedSimpArgs false
set_option linter.unusedVariables false
set_option linter.unusedSimpArgs false

theorem csame_yes (v1 v2 : Value) (es : List Step) (w : World) (h1 : RdE stepEl w v1 es) (h2 : RdE stepEl w v2 es) (hn : es.length ≤ 140737488355328) :
    Calls Try.prog 19 #[v1, v2] w fun e w' => e = .returned (.bool true) ∧ Nx w w' := by
  have HI := Lib.hid (sequal_yes v1 v2 es w h1 h2 hn)
  obtain ⟨A1, c1, fs1, rfl, -, -, -, -⟩ := h1.parts
  obtain ⟨A2, c2, fs2, rfl, -, -, -, -⟩ := h2.parts
  clear h1 h2 hn fs1 fs2
  go_enter Try.func19, Try.ntmps19
  go_wp2_with fail
  refine HI.out.mono ?_
  rintro e w1 ⟨rfl, n1⟩
  have N1 := Lib.hid n1
  clear n1
  go_wp2_with fail
  go_ret
  exact ⟨rfl, N1.out⟩
end Go.Proofs.Ytbhoflmdhlchlaa
