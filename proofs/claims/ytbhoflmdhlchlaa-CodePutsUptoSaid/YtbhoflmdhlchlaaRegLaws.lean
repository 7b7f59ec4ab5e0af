/- LAWS FOR ONE OPERATION OF A REGION THAT DRAWS ITS ORDER, of our own. -/
import Derived.Test.YtbhoflmdhlchlaaRegInv
import Derived.Test.YtbhoflmdhlchlaaRowU
namespace Go.Proofs.Ytbhoflmdhlchlaa
open Go Go.RowKit

section
variable {P : Program} {ops : Array Oper} {Q : Exit → Act → World → Prop}

theorem wpOp_of {i : Nat} {o : Oper} {K : Act → World → Prop} {a : Act} {w : World} (ho : ops[i]? = some o) (hg : o.guard = none) (h : o.wp P a w K Q) : wpOp P ops Q i K a w := by
  unfold wpOp
  rw [ho]
  show if Region.wanted o (yielded ops a.tmps) = true then _ else _
  rw [if_pos (by simp [Region.wanted, hg])]
  exact .inl h

theorem wp_call_of {o : Oper} {a : Act} {w : World} {K : Act → World → Prop} (dst : Option Tmp) (hd : o.dst = dst) (f : FuncId) (args : Array Value) (hrun : (execOp a.eval o).run P w = .ok (.enter f args) w)
    (V : Value) (hc : Calls P f args w fun e w' => e = .returned V ∧ Nx w w') (h : ∀ w', Nx w w' → K (a.put dst V) w') : o.wp P a w K Q := by
  subst hd
  unfold Oper.wp
  rw [hrun, Oper.upon_enter]
  refine hc.mono fun e w' hh => ?_
  obtain ⟨rfl, hn⟩ := hh
  exact h _ hn

theorem wp_val_of {o : Oper} {a : Act} {w : World} {K : Act → World → Prop} (dst : Option Tmp) (hd : o.dst = dst) (v : Value) (hrun : (execOp a.eval o).run P w = .ok (.value v) w) (h : K (a.put dst v) w) : o.wp P a w K Q := by
  subst hd
  unfold Oper.wp
  rw [hrun, Oper.upon_value]
  exact h
theorem ptr_ne {g h : Nat} (k : h ≠ g) : Value.pointer (some ⟨g, 0, none⟩) ≠ Value.pointer (some ⟨h, 0, none⟩) := fun e => by
  injection e with e
  injection e with e
  injection e with e
  exact k e.symm
theorem wp_region_inv2 {id : Nat} {a : Act} {w : World} (needs : List (List Nat)) (I : Act → (Nat → Bool) → Act → World → Prop) (hm : P.follows .mixedOrders = true) (hn : needsOf .any ops = needs) (hord : ∀ i, ∀ d ∈ needs.getD i [], d < i)
    (h0 : I a (fun _ => false) a w.drew)
    (hstep : ∀ L ac wr, I a L ac wr → ∀ i, i < ops.size → L i = false → (∀ d ∈ needs.getD i [], L d = true) → ∀ K : Act → World → Prop, (∀ ac wr, I a (fun j => j == i || L j) ac wr → K ac wr) → wpOp P ops Q i K ac wr)
    (hend : ∀ L ac wr, I a L ac wr → (∀ i, i < ops.size → L i = true) → Q .normal ac wr) : (Code.region id ops true).wp P Q a w :=
  wp_region_inv needs (I a) hm hn hord h0 hstep hend

theorem wp_alloc_of {o : Oper} {a : Act} {w : World} {K : Act → World → Prop} (dst : Option Tmp) (hd : o.dst = dst) (ty : TypeId) (ho : o.op = .alloc ty) (cs : Array Value) (hz : ∀ w, (zeroValue ty).run P w = .ok (.agg cs) w)
    (h : K (a.put dst (.pointer (some ⟨w.heap.size, 0, none⟩))) (w.alloc (.cells cs ty))) : o.wp P a w K Q := by
  subst hd
  unfold Oper.wp execOp
  simp only [ho]
  simp only [Instr.alloc, newVar, Sem.run_bind, hz, Result.andThen_ok, Sem.run_pure, Value.cells, go_sem]
  exact h
end
end Go.Proofs.Ytbhoflmdhlchlaa
