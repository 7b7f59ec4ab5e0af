/- LAYER 11: steps: the document's Pushes; what is told of each step of a list. -/
import Derived.Test.YtbhoflmdhlchlaaStep
import Derived.Test.YtbhoflmdhlchlaaPart
namespace Go.Proofs.Ytbhoflmdhlchlaa
open Go Go.RowKit
set_option linter.unusedVariables false
set_option linter.unusedSimpArgs false
set_option linter.unusedVariables false
set_option linter.unusedSimpArgs false

/-- The two cells of step j. -/
theorem step_at {w : World} {v : Value} {es : List Step} (h : RdE stepEl w v es) (j : Nat) (hj : j < es.length) : ∃ b o c u, v = .slice (some ⟨b, o, none⟩) es.length c ∧ b < w.heap.size ∧ w.cell? ⟨b, o + j * 2, none⟩ = some (.int .u8 (es[j].1.toNat : Int)) ∧ w.cell? ⟨b, o + (j * 2 + 1), none⟩ = some u ∧ RdS none w u es[j].2 := by
  obtain ⟨A, c, fs, rfl, h1, h2, hv, ha⟩ := h.parts
  obtain ⟨b, o, rfl, hb, hc⟩ := ha (by omega)
  obtain ⟨cs, hl, ⟨u, rfl, hr⟩, hcs⟩ := hv.at j hj
  obtain ⟨f0, g0⟩ := hcs 0 (by simp)
  obtain ⟨f1, g1⟩ := hcs 1 (by simp)
  refine ⟨b, o, c, u, rfl, hb, ?_, ?_, hr⟩
  · exact (hc (j * 2 + 0) f0).trans (congrArg some g0)
  · exact (hc (j * 2 + 1) f1).trans (congrArg some g1)
/-- Are they pushes? -/
def pushS (es : List Step) : Bool := es.all fun a => a.1 == 1
set_option maxHeartbeats 1000000 in
theorem rpushes_any (v : Value) (es : List Step) (w : World) (h : RdE stepEl w v es) (hn : es.length ≤ 140737488355328) :
    Calls Try.prog 18 #[v] w fun e w' => e = .returned (.bool (pushS es)) ∧ Nx w w' := by
  have HR := Lib.hid h
  obtain ⟨A, c, fs, rfl, -, -, -, -⟩ := h.parts
  have hjb : (es.length : Int) ≤ 140737488355328 := by omega
  clear h hn fs
  go_enter Try.func18, Try.ntmps18
  go_wp2_with fail
  go_loopw [3] (fun i wr => ∃ j : Nat, j ≤ es.length ∧ i = .int .i64 j ∧ Hid (pushS (es.take j) = true) ∧ ∃ q, wr = w.drewN q) (fun i _ => es.length - (intOf i).toNat)
  case atStart => exact ⟨0, by omega, rfl, show _ = _ by simp [pushS], 0, rfl⟩
  case round =>
    obtain ⟨j, hj, rfl, HP, q, rfl⟩ := hrel
    by_cases hlt : j < es.length
    · obtain ⟨b, o, c', u, e, hb, g0, g1, hr⟩ := step_at HR.out j hlt
      injection e with e1 e2 e3
      subst e1
      have hlt' : (j : Int) < (es.length : Int) := by omega
      have hj0 : (0 : Int) ≤ (j : Int) := by omega
      have HT : Hid (es.take (j + 1) = es.take j ++ [es[j]]) := Lib.hid (List.take_succ_eq_append_getElem hlt)
      have HM : Hid (es[j] ∈ es) := Lib.hid (List.getElem_mem hlt)
      clear g1 hr
      generalize es[j] = a at *
      obtain ⟨op, l⟩ := a
      dsimp only at g0
      have HPM : Hid ((op == 1) = false → pushS es = false) := Lib.hid fun ho => by
        unfold pushS
        rw [Bool.eq_false_iff]
        intro hall
        have := List.all_eq_true.1 hall _ HM.out
        rw [ho] at this
        cases this
      by_cases ho : op = 1
      · subst ho
        have e1 : (((1 : UInt8).toNat : Int) != 1) = false := by decide
        go_wp2_with fail
        go_roundw
        case rel => exact ⟨j + 1, by omega, by go_num, show _ = _ by rw [HT.out]; unfold pushS; rw [List.all_append]; have := HP.out; unfold pushS at this; rw [this]; rfl, q, rfl⟩
        case measure => simp [intOf]; omega
      · have e1 : ((op.toNat : Int) != 1) = true := by
          simp only [bne_iff_ne, ne_eq]
          intro e
          exact ho (UInt8.toNat_inj.1 (by show op.toNat = 1; omega))
        have HF : Hid (pushS es = false) := Lib.hid (HPM.out (beq_false_of_ne ho))
        clear ho
        go_wp2_with fail
        go_ret
        exact ⟨by rw [HF.out]; rfl, (Nx.refl w).drewN q⟩
    · have hj' : j = es.length := by omega
      subst hj'
      rw [List.take_of_length_le (Nat.le_refl _)] at HP
      go_wp2_with fail
      go_ret
      exact ⟨by rw [HP.out]; rfl, (Nx.refl w).drewN q⟩
end Go.Proofs.Ytbhoflmdhlchlaa
