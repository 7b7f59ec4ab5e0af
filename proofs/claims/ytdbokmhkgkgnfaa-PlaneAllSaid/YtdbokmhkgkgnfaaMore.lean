/- WORDS FOR VALUES OF SEVERAL CELLS, of our own: stores into blocks that were laid; callees that leave the world alone, within regions that draw. -/
import Derived.Test.YtdbokmhkgkgnfaaRows
import Derived.Test.YtdbokmhkgkgnfaaBytes
import Derived.LoopTactic
import Derived.Outline
import Derived.Deep.QuietTactic
import Derived.BigQuiet
import Derived.IntWalk
import Derived.Laws.BitsAllLaws
import Derived.WalkLawsBesides
namespace Go.Proofs.Ytdbokmhkgkgnfaa
open Go.RowKit
set_option linter.unusedVariables false
set_option linter.unusedSimpArgs false

theorem Nx.setAt {a b : World} (h : Nx a b) {k i : Nat} (v : Value) (hp : a.heap.size ≤ k) : Nx a (b.setCell ⟨k, i, none⟩ v) := Below.setCell h hp v
theorem Nx.facts {a b : World} (h : Nx a b) : (∀ k i, k < a.heap.size → b.cell? ⟨k, i, none⟩ = a.cell? ⟨k, i, none⟩) ∧ (∀ k i, k < a.heap.size → b.frozen? ⟨k, i, none⟩ = a.frozen? ⟨k, i, none⟩) ∧ a.heap.size ≤ b.heap.size :=
  ⟨fun k i hk => h.cell (p := ⟨k, i, none⟩) hk, fun k i hk => h.frozen (p := ⟨k, i, none⟩) hk, h.size⟩
theorem drewN_setCell (w : World) (n : Nat) (a : Addr) (v : Value) : (w.drewN n).setCell a v = (w.setCell a v).drewN n := rfl
theorem alloc_size (w : World) (o : Obj) : (w.alloc o).heap.size = w.heap.size + 1 := by simp
theorem drewN_size (w : World) (n : Nat) : (w.drewN n).heap.size = w.heap.size := rfl
theorem put1 (w : World) (cs : Array Value) (t : TypeId) (n i : Nat) (v : Value) :
    ((w.alloc (.cells cs t)).drewN n).setCell ⟨w.heap.size, i, none⟩ v = (w.alloc (.cells (cs.setIfInBounds i v) t)).drewN n := by
  rw [drewN_setCell, World.setCell_alloc_at _ _ _ _ _ rfl]
theorem put2 (w : World) (cs : Array Value) (t : TypeId) (o2 : Obj) (n i : Nat) (v : Value) :
    (((w.alloc (.cells cs t)).alloc o2).drewN n).setCell ⟨w.heap.size, i, none⟩ v = ((w.alloc (.cells (cs.setIfInBounds i v) t)).alloc o2).drewN n := by
  rw [drewN_setCell, World.setCell_alloc_past _ _ _ _ (by simp), World.setCell_alloc_at _ _ _ _ _ rfl]
/-- A store into the first of three blocks that were laid. -/
theorem put3a (w : World) (cs : Array Value) (t : TypeId) (o2 o3 : Obj) (n i : Nat) (v : Value) :
    ((((w.alloc (.cells cs t)).alloc o2).alloc o3).drewN n).setCell ⟨w.heap.size, i, none⟩ v = (((w.alloc (.cells (cs.setIfInBounds i v) t)).alloc o2).alloc o3).drewN n := by
  rw [drewN_setCell, World.setCell_alloc_past _ _ _ _ (by simp; omega), World.setCell_alloc_past _ _ _ _ (by simp), World.setCell_alloc_at _ _ _ _ _ rfl]

theorem put3b (w : World) (cs : Array Value) (t : TypeId) (o1 o3 : Obj) (n i : Nat) (v : Value) :
    ((((w.alloc o1).alloc (.cells cs t)).alloc o3).drewN n).setCell ⟨w.heap.size + 1, i, none⟩ v = (((w.alloc o1).alloc (.cells (cs.setIfInBounds i v) t)).alloc o3).drewN n := by
  rw [drewN_setCell, World.setCell_alloc_past _ _ _ _ (by simp), World.setCell_alloc_at _ _ _ _ _ (by simp)]
theorem put3c (w : World) (cs : Array Value) (t : TypeId) (o1 o2 : Obj) (n i : Nat) (v : Value) :
    ((((w.alloc o1).alloc o2).alloc (.cells cs t)).drewN n).setCell ⟨w.heap.size + 1 + 1, i, none⟩ v = (((w.alloc o1).alloc o2).alloc (.cells (cs.setIfInBounds i v) t)).drewN n := by
  rw [drewN_setCell, World.setCell_alloc_at _ _ _ _ _ (by simp)]
theorem put2b (w : World) (cs : Array Value) (t : TypeId) (o1 : Obj) (n i : Nat) (v : Value) :
    (((w.alloc o1).alloc (.cells cs t)).drewN n).setCell ⟨w.heap.size + 1, i, none⟩ v = ((w.alloc o1).alloc (.cells (cs.setIfInBounds i v) t)).drewN n := by
  rw [drewN_setCell, World.setCell_alloc_at _ _ _ _ _ (by simp)]

section
variable {P : Program}
/-- A callee that leaves each world alone, met within a region that draws; behind draws already. -/
theorem still1 {f : FuncId} {args : Array Value} {w : World} {n : Nat} {v : Value} (h : ∀ W : World, Calls P f args W fun e w' => e = .returned v ∧ w' = W) :
    Calls P f args (w.drewN n) fun e w'' => e = .returned v ∧ ∃ m, w'' = w.drewN m := (h _).mono fun _ _ hh => ⟨hh.1, n, hh.2⟩
theorem still2 {f : FuncId} {args : Array Value} {w : World} {a n : Nat} {v : Value} (h : ∀ W : World, Calls P f args W fun e w' => e = .returned v ∧ w' = W) :
    Calls P f args (w.drewN (a + n)) fun e w'' => e = .returned v ∧ ∃ m, w'' = w.drewN (a + m) := (h _).mono fun _ _ hh => ⟨hh.1, n, hh.2⟩
end
end Go.Proofs.Ytdbokmhkgkgnfaa
