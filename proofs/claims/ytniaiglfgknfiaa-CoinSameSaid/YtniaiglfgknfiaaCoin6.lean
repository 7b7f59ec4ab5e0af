/- CONTRACTS OF LAYER 6: mayBe, PutPoint. -/
import Derived.Test.YtniaiglfgknfiaaCoin5
namespace Go.Proofs.Ytniaiglfgknfiaa
open Go Go.RowKit
set_option linter.unusedVariables false
set_option linter.unusedSimpArgs false

section
variable {P : Program}
theorem wp_load_cell {o : Oper} {a : Act} {w : World} {K : Act → World → Prop} {Q : Exit → Act → World → Prop} (dst : Option Tmp) (hdst : o.dst = dst) (ty : TypeId) (x : Operand) (ho : o.op = .load ty x)
    (g k : Nat) (hx : a.eval x = .pointer (some ⟨g, k, none⟩)) (v : Value) (d : TypeDesc) (hc : w.cell? ⟨g, k, none⟩ = some v)
    (hu : P.underlying ty = some d) (hd : (match d with | .struct _ | .array _ _ => true | _ => false) = false)
    (h : K (a.put dst v) w) : o.wp P a w K Q := by
  subst hdst
  have hagg : (isAgg ty).run P w = .ok false w := by
    unfold isAgg
    rw [Sem.run_bind, run_underlying hu w]
    cases d <;> simp_all
  have hl : (loadVar ty ⟨g, k, none⟩).run P w = .ok v w := by
    simp [loadVar, Sem.run_bind, hagg, hc]
  unfold Oper.wp execOp
  simp only [ho, hx, Instr.loadAt, Instr.sureAddr, Sem.run_bind, Sem.run_pure, Result.andThen_ok, hl]
  exact h
end
/-- May it be? -/
def mayB (v n : Nat) : Bool := decide (v ≤ 1125899906842624) && decide (n ≤ 100)
theorem mayBe_any (v : Nat) (lv : Value) (l : List UInt8) (w : World) (h : Rd w lv l) (hr : l.length ≤ 140737488355328) :
    Calls Try.prog 32 #[.int .u64 (v : Int), lv] w fun e w' => e = .returned (.bool (mayB v l.length)) ∧ w = w' := by
  obtain ⟨A, c, rfl, -⟩ := h
  unfold mayB
  have h1 : decide ((v : Int) ≤ 1125899906842624) = decide (v ≤ 1125899906842624) := by rw [Bool.eq_iff_iff, decide_eq_true_iff, decide_eq_true_iff]; omega
  have h2 : decide ((l.length : Int) ≤ 100) = decide (l.length ≤ 100) := by rw [Bool.eq_iff_iff, decide_eq_true_iff, decide_eq_true_iff]; omega
  have HR := Lib.hid hr
  rw [← h1, ← h2]
  clear h1 h2 hr
  rcases hx : decide ((v : Int) ≤ 1125899906842624) with _ | _
  · go_enter Try.func32, Try.ntmps32
    go_wp2_with fail
    go_ret
    exact ⟨rfl, rfl⟩
  · rcases hy : decide ((l.length : Int) ≤ 100) with _ | _
    all_goals
      go_enter Try.func32, Try.ntmps32
      go_wp2_with fail
      go_ret
      exact ⟨rfl, rfl⟩
end Go.Proofs.Ytniaiglfgknfiaa
