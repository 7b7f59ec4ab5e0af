/- LAYER 10: what the laid variables give: the hash's table, the handle of the type 'error'. -/
import Derived.Test.YtpijehaciomkhaaDoorTl
import Derived.Test.YtpijehaciomkhaaDoorBe
import Derived.LaidHandle
import Derived.MakeChecks
import Derived.Lay
import Derived.LaidLaws
namespace Go.Proofs.YtpijehaciomkhaaDoor
open Go Go.RowKit
set_option linter.unusedVariables false
set_option linter.unusedSimpArgs false
set_option linter.unusedVariables false
set_option linter.unusedSimpArgs false

abbrev laidB : List (String × DataW Unit) := [("errors.errorType", Rows.laid_errors_errorType), ("moneyer/sha.k", Rows.laid_moneyer_sha_k)]
theorem etGlobal : Tryd.prog.globalNamed "errors.errorType" = some 0 := by kernel_rfl
theorem rtType : (Tryd.prog.cutTypes.find? (·.1 == "internal/reflectlite.rtype")).map (·.2) = some 144 := by kernel_rfl
theorem errRow : ((List.range Tryd.prog.types.size).filter fun t => Tryd.prog.rowNamed t [101, 114, 114, 111, 114]) = [59] := by kernel_rfl
theorem laidB_parts {W : World} (h : laidMetH Tryd.prog laidB W) : laidMet Tryd.prog [("moneyer/sha.k", Rows.laid_moneyer_sha_k)] W ∧ handlesMet Tryd.prog [("errors.errorType", Rows.laid_errors_errorType)] W := h
theorem eis_of_laid {W : World} (h : laidMetH Tryd.prog laidB W) : EIs W := by
  obtain ⟨name, u, ty, e1, e2, e3, e4, e5⟩ := (laidB_parts h).2 _ (List.mem_singleton.2 rfl)
  have en : name = [101, 114, 114, 111, 114] := (Option.some.inj e1).symm
  subst en
  obtain rfl := Option.some.inj (rtType.symm.trans e2)
  have hm : ty ∈ (List.range Tryd.prog.types.size).filter fun t => Tryd.prog.rowNamed t [101, 114, 114, 111, 114] := List.mem_filter.2 ⟨List.mem_range.2 e3, e4⟩
  rw [errRow] at hm
  obtain rfl := List.mem_singleton.1 hm
  have hh : typeHandle Tryd.prog 59 = hR := by kernel_rfl
  rw [hh] at e5
  show W.cell? ⟨0, 0, none⟩ = some (.iface 144 (.agg #[hR]))
  simpa using World.var?_cell etGlobal e5 0
theorem kis_of_laidB {W : World} (h : laidMetH Tryd.prog laidB W) : KIs W := by
  refine kis_of_laid ?_
  rw [MakeChecks.laidMetH_plain _ _ _ (by kernel_rfl)]
  exact (laidB_parts h).1
/-- A world in which both stand. -/
noncomputable def baseW (os : Os) : World :=
  let w0 := World.holding Tryd.prog os ⟨#[], #[], []⟩
  { w0 with heap := w0.heap.modify 0 fun
      | .cells _ t frozen => .cells #[.iface 144 (.agg #[hR])] t frozen
      | o => o }
abbrev laidK : List (String × DataW Unit) := [("moneyer/sha.k", Rows.laid_moneyer_sha_k)]
noncomputable def laidW (os : Os) : World := (baseW os).layVars Tryd.prog laidK
theorem laidW_os (os : Os) : (laidW os).os = os := World.layVars_os _ _ _
theorem laidK_met (os : Os) : laidMet Tryd.prog laidK (laidW os) := by
  have e1 : (laidK.filter fun x => ["moneyer/sha.k"].contains x.1) = laidK := by kernel_rfl
  have e2 : (laidK.filter fun x => !["moneyer/sha.k"].contains x.1) = [] := by kernel_rfl
  exact laidMet_layVars (w0 := baseW os) ["moneyer/sha.k"] [] (by rw [e1]; rfl) (by rw [e1]; kernel_rfl) (by rw [e1]; kernel_rfl) (by rw [e2]; exact LaidIn.none)
theorem laidW_met (os : Os) (args : Array Value) : laidMetH Tryd.prog laidB ((laidW os).forCall (fun _ _ => 0) ⟨#[], args, []⟩).memory := by
  have h1 : laidMet Tryd.prog laidK ((laidW os).forCall (fun _ _ => 0) ⟨#[], args, []⟩).memory := (laidK_met os).of_heap (by simp [World.memory, World.forCall, Input.heap])
  have e : (laidB.filter fun x => x.2.handleName?.isNone) = laidK := by kernel_rfl
  exact laidMetH_of_parts (by rw [e]; exact h1) (by kernel_rfl)
end Go.Proofs.YtpijehaciomkhaaDoor
