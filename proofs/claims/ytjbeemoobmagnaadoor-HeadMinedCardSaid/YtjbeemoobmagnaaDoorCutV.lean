/- A CUT OF A SLICE, BETWEEN TWO PLACES, of our own. -/
import Derived.Test.YtjbeemoobmagnaaDoorGb
import Derived.Test.YtjbeemoobmagnaaDoorGe
namespace Go.Proofs.YtjbeemoobmagnaaDoor
open Go Go.RowKit
set_option linter.unusedVariables false
set_option linter.unusedSimpArgs false

/-- What a slice is between two places. -/
def betweenV (A : Option Addr) (c lo hi : Nat) : Value := .slice (if c = lo then A else A.map (·.add lo)) (hi - lo) (c - lo)
theorem slice_between {P : Program} (t e : TypeId) (ht : P.underlying t = some (.slice e)) (hsz : ∀ w, (sizeOf e).run P w = .ok 1 w) (A : Option Addr) (n c lo hi : Nat) (zl zh : Int) (hl : zl = lo) (hh : zh = hi) (h1 : lo ≤ hi) (h2 : hi ≤ c) (w : World) :
    (Instr.sliceAt t (.slice A n c) (some (.int .i64 zl)) (some (.int .i64 zh)) none).run P w = .ok (betweenV A c lo hi) w := by
  subst hl hh
  have e1 : (lo : Int) ≤ (hi : Int) := by omega
  have e2 : (hi : Int) ≤ (c : Int) := by omega
  unfold betweenV
  simp [Instr.sliceAt, Instr.slice, Instr.sureAddr, run_underlying ht, Instr.sliceBounds, run_sliceBound, hsz, e1, e2, h1, h2]
theorem between_rd {w : World} {A : Option Addr} {c : Nat} {l : List UInt8} (ha : At w A l) (hc : l.length ≤ c) (hm : c ≤ maxLen) (lo hi : Nat) (h1 : lo ≤ hi) (h2 : hi ≤ l.length) : Rd w (betweenV A c lo hi) ((l.drop lo).take (hi - lo)) := by
  unfold betweenV
  split
  · have e : (l.drop lo).take (hi - lo) = [] := by rw [List.drop_of_length_le (by omega), List.take_nil]
    rw [e, show hi - lo = 0 by omega]
    exact Rd.none0 w _ _ (by omega)
  · exact Rd.cut (c := c - lo) ha (i := lo) (m := hi - lo) (by omega) (by omega) (by omega)
theorem wpList_cut {P : Program} {ops : Array Oper} {rest : List Oper} {o : Oper} {a : Act} {w : World} {Q : Exit → Act → World → Prop} (dst : Option Tmp) (hds : o.dst = dst) (hgd : o.guard = none) (ty : TypeId) (x : Operand) (lo hi mx : Option Operand) (ho : o.op = .slice ty x lo hi mx) (v : Value)
    (hrun : (Instr.sliceAt ty (a.eval x) (lo.map a.eval) (hi.map a.eval) (mx.map a.eval)).run P w = .ok v w) (h : wpList P ops Q rest (a.put dst v) w) : wpList P ops Q (o :: rest) a w := by
  refine wpList_val dst hds hgd v ?_ h
  unfold execOp
  simp only [ho]
  simp only [Sem.run_bind, hrun, Result.andThen_ok, Sem.run_pure]
end Go.Proofs.YtjbeemoobmagnaaDoor
