/- AN OPERATION UNDER A GUARD THAT HOLDS; TWO ARRAYS COMPARED, as operations of a region; of our own. -/
import Derived.Test.YtjbeemoobmagnaaDoorGe
namespace Go.Proofs.YtjbeemoobmagnaaDoor
open Go Go.RowKit
set_option linter.unusedVariables false
set_option linter.unusedSimpArgs false
section
variable {P : Program} {ops : Array Oper} {Q : Exit → Act → World → Prop}
theorem wpOp_g {i : Nat} {o : Oper} {K : Act → World → Prop} {a : Act} {w : World} (ho : ops[i]? = some o) (hg : Region.wanted o (yielded ops a.tmps) = true) (h : o.wp P a w K Q) : wpOp P ops Q i K a w := by
  unfold wpOp
  rw [ho]
  show if Region.wanted o (yielded ops a.tmps) = true then _ else _
  rw [if_pos hg]
  exact .inl h
theorem wp_eql_of {o : Oper} {a : Act} {w : World} {K : Act → World → Prop} (dst : Option Tmp) (hd : o.dst = dst) (T : TypeId) (x y : Operand) (T' : TypeId) (ho : o.op = .binOp .eql T x y T') (X Y : Array Value)
    (hx : a.eval x = .agg X) (hy : a.eval y = .agg Y) (hgt : P.eqGuardType P.depth T = false) (b : Bool) (heq : (Op.equalIn 10000 T (.agg X) (.agg Y)).run P w = .ok b w) (h : K (a.put dst (.bool b)) w) : o.wp P a w K Q := by
  refine wp_val_of dst hd (.bool b) ?_ h
  unfold execOp
  simp only [ho]
  have e1 : (eqGuard .eql T x y (a.eval x) (a.eval y)).run P w = .ok () w := by
    rw [hx, hy]
    simp [eqGuard, hgt, Sem.run_bind, Sem.run_pure, run_program]
  have e2 : (binOp .eql T (a.eval x) (a.eval y)).run P w = .ok (.bool b) w := by
    rw [hx, hy]
    show (do pure (Value.bool (← Op.equal T (.agg X) (.agg Y)))).run P w = _
    have : (Op.equal T (.agg X) (.agg Y)).run P w = .ok b w := heq
    simp [Sem.run_bind, this]
  simp only [Sem.run_bind, e1, e2, Result.andThen_ok, Sem.run_pure]
end
end Go.Proofs.YtjbeemoobmagnaaDoor
