/- WORDS FOR VALUES OF SEVERAL CELLS, of our own, more. -/
import Derived.Test.YtdbokmhkgkgnfaaMore
namespace Go.Proofs.Ytdbokmhkgkgnfaa
open Go.RowKit
set_option linter.unusedVariables false
set_option linter.unusedSimpArgs false
theorem drewN_drew (w : World) (n : Nat) : (w.drewN n).drew = w.drewN (n + 1) := rfl
theorem set_twice (cs : Array Value) (i : Nat) (v v' : Value) : (cs.setIfInBounds i v).setIfInBounds i v' = cs.setIfInBounds i v' := by
  first | exact Array.setIfInBounds_setIfInBounds .. | simp | grind
theorem put3c2 (w : World) (cs : Array Value) (t : TypeId) (o1 o2 : Obj) (n i : Nat) (v v' : Value) :
    ((((((w.alloc o1).alloc o2).alloc (.cells cs t)).drewN n).setCell ⟨w.heap.size + 1 + 1, i, none⟩ v).setCell ⟨w.heap.size + 1 + 1, i, none⟩ v').drew = (((w.alloc o1).alloc o2).alloc (.cells (cs.setIfInBounds i v') t)).drewN (n + 1) := by
  rw [put3c, put3c, drewN_drew, set_twice]
end Go.Proofs.Ytdbokmhkgkgnfaa
