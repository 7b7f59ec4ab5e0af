/- LAWS FOR ONE OPERATION OF A REGION THAT DRAWS ITS ORDER, more; rows of rows, of our own. -/
import Derived.Test.YtbhoflmdhlchlaaRegLaws
import Derived.Test.YtbhoflmdhlchlaaCat
namespace Go.Proofs.Ytbhoflmdhlchlaa
open Go Go.RowKit
set_option linter.unusedVariables false
set_option linter.unusedSimpArgs false

section
variable {P : Program} {ops : Array Oper} {Q : Exit → Act → World → Prop}
theorem wp_callp_of {o : Oper} {a : Act} {w : World} {K : Act → World → Prop} (dst : Option Tmp) (hd : o.dst = dst) (f : FuncId) (args : Array Value) (hrun : (execOp a.eval o).run P w = .ok (.enter f args) w)
    (PV : Value → World → Prop) (hc : Calls P f args w fun e w' => ∃ v, e = .returned v ∧ PV v w' ∧ Nx w w') (h : ∀ v w', PV v w' → Nx w w' → K (a.put dst v) w') : o.wp P a w K Q := by
  subst hd
  unfold Oper.wp
  rw [hrun, Oper.upon_enter]
  refine hc.mono fun e w' hh => ?_
  obtain ⟨v, rfl, hp, hn⟩ := hh
  exact h _ _ hp hn
theorem wp_slice_of {o : Oper} {a : Act} {w : World} {K : Act → World → Prop} (dst : Option Tmp) (hd : o.dst = dst) (ty : TypeId) (x : Operand) (lo hi mx : Option Operand) (ho : o.op = .slice ty x lo hi mx) (v : Value)
    (hrun : (Instr.sliceAt ty (a.eval x) (lo.map a.eval) (hi.map a.eval) (mx.map a.eval)).run P w = .ok v w) (h : K (a.put dst v) w) : o.wp P a w K Q := by
  refine wp_val_of dst hd v ?_ h
  unfold execOp
  simp only [ho]
  simp only [Sem.run_bind, hrun, Result.andThen_ok, Sem.run_pure]
theorem wp_mk_of {o : Oper} {a : Act} {w : World} {K : Act → World → Prop} (dst : Option Tmp) (hd : o.dst = dst) (ty : TypeId) (n : Nat) (parts : Array (Nat × Operand)) (ho : o.op = .buildSlice ty n parts) (vals : Array (Nat × Value)) (hv : (parts.map fun (i, x) => (i, a.eval x)) = vals) (v : Value) (w' : World)
    (hrun : (Instr.buildSlice ty n vals).run P w = .ok v w') (h : K (a.put dst v) w') : o.wp P a w K Q := by
  subst hd
  subst hv
  unfold Oper.wp execOp
  simp only [ho]
  simp only [Sem.run_bind, hrun, Result.andThen_ok, Sem.run_pure, Oper.upon_value]
  exact h
end

/-- A slice value. -/
def Sl (v : Value) : Prop := ∃ A n c, v = .slice A n c
theorem Rd.sl {w : World} {v : Value} {l : List UInt8} (h : Rd w v l) : Sl v := by
  obtain ⟨A, c, rfl, _⟩ := h; exact ⟨_, _, _, rfl⟩

/-- A row of rows of bytes: what a literal of slices lays. -/
def CatAt (x : Value) (ls : List (List UInt8)) (w : World) : Prop :=
  ∃ g vs, x = .slice (some ⟨g, 0, none⟩) ls.length ls.length ∧ w.heap[g]? = some (.cells (vs : List Value).toArray 23 (0, 0)) ∧ Vs w vs ls
theorem CatAt.nx {x : Value} {ls : List (List UInt8)} {w w' : World} (h : CatAt x ls w) (k : Nx w w') : CatAt x ls w' := by
  obtain ⟨g, vs, rfl, hg, hv⟩ := h
  exact ⟨g, vs, rfl, k.blk hg, hv.nx k⟩
theorem concat_at {x : Value} {ls : List (List UInt8)} (w : World) (h : CatAt x ls w) (hn : ls.length ≤ 1000) (ht : ls.flatten.length ≤ 140737488355328) (B : Nat) (hB : B ≤ w.heap.size) :
    Calls Try.prog 66 #[x] w fun e w' => ∃ v, e = .returned v ∧ Own B w' v ls.flatten ∧ Nx w w' := by
  obtain ⟨g, vs, rfl, hg, hv⟩ := h
  exact (concat_any g vs ls w hg hv hn ht).mono fun e w' ⟨v, he, ho, hn⟩ => ⟨v, he, ho.mono hB, hn⟩
theorem run_mk2 {v1 v2 : Value} (h1 : Sl v1) (h2 : Sl v2) (w : World) :
    (Instr.buildSlice 40 2 #[(0, v1), (1, v2)]).run Try.prog w = .ok (.slice (some ⟨w.heap.size, 0, none⟩) 2 2) (w.alloc (.cells #[v1, v2] 23)) := by
  obtain ⟨A, n, c, rfl⟩ := h1
  obtain ⟨A', n', c', rfl⟩ := h2
  kernel_rfl
theorem run_mk3 {v1 v2 v3 : Value} (h1 : Sl v1) (h2 : Sl v2) (h3 : Sl v3) (w : World) :
    (Instr.buildSlice 40 3 #[(0, v1), (1, v2), (2, v3)]).run Try.prog w = .ok (.slice (some ⟨w.heap.size, 0, none⟩) 3 3) (w.alloc (.cells #[v1, v2, v3] 23)) := by
  obtain ⟨A, n, c, rfl⟩ := h1
  obtain ⟨A', n', c', rfl⟩ := h2
  obtain ⟨A'', n'', c'', rfl⟩ := h3
  kernel_rfl
theorem catAt2 {v1 v2 : Value} {l1 l2 : List UInt8} {w : World} (h1 : Rd w v1 l1) (h2 : Rd w v2 l2) : CatAt (.slice (some ⟨w.heap.size, 0, none⟩) 2 2) [l1, l2] (w.alloc (.cells #[v1, v2] 23)) :=
  ⟨w.heap.size, [v1, v2], rfl, heap_alloc_new w _, (Vs.cons (h1.alloc _) (Vs.cons (h2.alloc _) (Vs.nil _)))⟩
theorem catAt3 {v1 v2 v3 : Value} {l1 l2 l3 : List UInt8} {w : World} (h1 : Rd w v1 l1) (h2 : Rd w v2 l2) (h3 : Rd w v3 l3) : CatAt (.slice (some ⟨w.heap.size, 0, none⟩) 3 3) [l1, l2, l3] (w.alloc (.cells #[v1, v2, v3] 23)) :=
  ⟨w.heap.size, [v1, v2, v3], rfl, heap_alloc_new w _, (Vs.cons (h1.alloc _) (Vs.cons (h2.alloc _) (Vs.cons (h3.alloc _) (Vs.nil _))))⟩
end Go.Proofs.Ytbhoflmdhlchlaa
