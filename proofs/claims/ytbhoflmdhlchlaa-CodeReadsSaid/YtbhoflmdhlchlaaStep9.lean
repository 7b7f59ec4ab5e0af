/- LAYER 11: Same of the document, of like steps. -/
import Derived.Test.YtbhoflmdhlchlaaStep6
import Derived.Test.YtbhoflmdhlchlaaStack1
namespace Go.Proofs.Ytbhoflmdhlchlaa
open Go Go.RowKit
set_option linter.unusedVariables false
set_option linter.unusedSimpArgs false
set_option linter.unusedVariables false
set_option linter.unusedSimpArgs false

set_option maxRecDepth 100000 in
set_option maxHeartbeats 2000000 in
theorem rsameS_yes (v1 v2 : Value) (es : List Step) (w : World) (h1 : RdE stepEl w v1 es) (h2 : RdE stepEl w v2 es) (hn : es.length ≤ 140737488355328) :
    Calls Try.prog 24 #[v1, v2] w fun e w' => e = .returned (.bool true) ∧ Nx w w' := by
  have HR := Lib.hid h1
  have HS1 := Lib.hid h2
  obtain ⟨A1, c1, fs1, rfl, -, -, -, -⟩ := h1.parts
  obtain ⟨A2, c2, fs2, rfl, -, -, -, -⟩ := h2.parts
  have hjb : (es.length : Int) ≤ 140737488355328 := by omega
  have hne : ((es.length : Int) != (es.length : Int)) = false := by simp
  clear h1 h2 hn fs1 fs2
  go_enter Try.func24, Try.ntmps24
  go_wp2_with fail
  clear hne
  go_loopw [5] (fun i wr => ∃ j : Nat, j ≤ es.length ∧ i = .int .i64 j ∧ Nx w wr) (fun i _ => es.length - (intOf i).toNat)
  case atStart => exact ⟨0, by omega, rfl, Nx.refl _⟩
  case round =>
    obtain ⟨j, hj, rfl, hx⟩ := hrel
    by_cases hlt : j < es.length
    · obtain ⟨b, o, c', u, e, hb, g0, g1, hr⟩ := step_at HR.out j hlt
      obtain ⟨d, q, k', z, e', hd, f0, f1, hq⟩ := step_at HS1.out j hlt
      injection e with e1 e2 e3
      subst e1
      injection e' with e4 e5 e6
      subst e4
      have hlt' : (j : Int) < (es.length : Int) := by omega
      have hj0 : (0 : Int) ≤ (j : Int) := by omega
      have hr1 := Lib.hid hr.1
      have hr2 := Lib.hid hq.1
      have HX := Lib.hid hx
      obtain ⟨B9, d9, rfl⟩ := hr.sl
      obtain ⟨B8, d8, rfl⟩ := hq.sl
      generalize es[j] = a at *
      obtain ⟨op, l⟩ := a
      dsimp only at g0 g1 f0 f1 hr1 hr2 hr hq
      have hw1 : wrap64 ((j : Int) + 1) = (j : Int) + 1 := by unfold wrap64; omega
      have hno : ((op.toNat : Int) != (op.toNat : Int)) = false := by simp
      have G0 := (hx.cell (p := ⟨b, o + j * 2, none⟩) hb).trans g0
      have G1 : wr.cell? ⟨b, o + j * 2 + 1, none⟩ = some (.slice B9 l.length d9) := (hx.cell (p := ⟨b, o + (j * 2 + 1), none⟩) hb).trans g1
      have F0 := (hx.cell (p := ⟨d, q + j * 2, none⟩) hd).trans f0
      have F1 : wr.cell? ⟨d, q + j * 2 + 1, none⟩ = some (.slice B8 l.length d8) := (hx.cell (p := ⟨d, q + (j * 2 + 1), none⟩) hd).trans f1
      have HS : Hid (∀ w0, Below wr.heap.size wr w0 → Calls Try.prog 16 #[.slice B9 l.length d9, .slice B8 l.length d8] w0 fun e w' => e = .returned (.bool true) ∧ Below w0.heap.size w0 w') := Lib.hid fun w0 n0 => same_yes _ _ l w0 (hr1.out.nx (HX.out.trans n0)) (hr2.out.nx (HX.out.trans n0))
      have q0 : ∀ dd os, (Sort.grow (redrawn wr dd) os).cell? ⟨b, o + j * 2, none⟩ = some (.int .u8 (op.toNat : Int)) := fun dd os => cell_regrown G0 dd os
      have q1 : ∀ dd os, (Sort.grow (redrawn wr dd) os).cell? ⟨b, o + j * 2 + 1, none⟩ = some (.slice B9 l.length d9) := fun dd os => cell_regrown G1 dd os
      have q2 : ∀ dd os, (Sort.grow (redrawn wr dd) os).cell? ⟨d, q + j * 2, none⟩ = some (.int .u8 (op.toNat : Int)) := fun dd os => cell_regrown F0 dd os
      have q3 : ∀ dd os, (Sort.grow (redrawn wr dd) os).cell? ⟨d, q + j * 2 + 1, none⟩ = some (.slice B8 l.length d8) := fun dd os => cell_regrown F1 dd os
      clear g0 g1 f0 f1 G0 G1 F0 F1 hr hq hr1 hr2 e2 e3 e5 e6 hb hd hx
      go_wp2
      refine wp_region_quiet_below (by kernel_rfl) (by kernel_rfl) ?_
      repeat (first
        | quiet_step ((first
          | (go_at_call 16; with_reducible exact Calls.regrown_of (HS.out _ (below_regrown wr _ _))))))
      refine wpQuiet_nil ?_
      intro _ hw'
      obtain ⟨⟨dq, osq⟩, hw''⟩ := hw'
      subst hw''
      go_wp2
      go_roundw
      case rel => exact ⟨j + 1, by omega, by go_num, HX.out.trans (below_regrown wr dq osq)⟩
      case measure => simp [intOf]; omega
    · go_wp2_with fail
      go_ret
      exact ⟨rfl, hx⟩
end Go.Proofs.Ytbhoflmdhlchlaa
