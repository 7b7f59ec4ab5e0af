/- LAYER 3: a block that holds a number. -/
import Derived.Test.YtdbokmhkgkgnfaaRowW
import Derived.Test.YtdbokmhkgkgnfaaBigPure
import Derived.Laws.Rows
import Derived.Laws.Tables
namespace Go.Proofs.Ytdbokmhkgkgnfaa
open Go.RowKit
set_option linter.unusedVariables false
set_option linter.unusedSimpArgs false
theorem Row.zero4 {w : World} {g : Nat} {t : TypeId} (h : Row w g #[.int .u64 0, .int .u64 0, .int .u64 0, .int .u64 0] t) : w.cell? ⟨g, 0, none⟩ = some (.int .u64 0) ∧ w.cell? ⟨g, 1, none⟩ = some (.int .u64 0) ∧ w.cell? ⟨g, 2, none⟩ = some (.int .u64 0) ∧ w.cell? ⟨g, 3, none⟩ = some (.int .u64 0) := ⟨h.cell rfl, h.cell rfl, h.cell rfl, h.cell rfl⟩
theorem Row.four {w : World} {g n : Nat} {t : TypeId} (h : Row w g #[.int .u64 (lim n 0 : Int), .int .u64 (lim n 1 : Int), .int .u64 (lim n 2 : Int), .int .u64 (lim n 3 : Int)] t) : w.cell? ⟨g, 0, none⟩ = some (.int .u64 (lim n 0 : Int)) ∧ w.cell? ⟨g, 1, none⟩ = some (.int .u64 (lim n 1 : Int)) ∧ w.cell? ⟨g, 2, none⟩ = some (.int .u64 (lim n 2 : Int)) ∧ w.cell? ⟨g, 3, none⟩ = some (.int .u64 (lim n 3 : Int)) := ⟨h.cell rfl, h.cell rfl, h.cell rfl, h.cell rfl⟩

theorem Row.new2 (w : World) (o1 : Obj) (cs : Array Value) (t : TypeId) : Row ((w.alloc o1).alloc (.cells cs t)) (w.heap.size + 1) cs t := Row.new _ _ _ _ (by simp)
theorem Row.new3 (w : World) (o1 o2 : Obj) (cs : Array Value) (t : TypeId) : Row (((w.alloc o1).alloc o2).alloc (.cells cs t)) (w.heap.size + 1 + 1) cs t := Row.new _ _ _ _ (by simp)
theorem Nx.setRow {a b : World} (h : Nx a b) {g : Nat} (cs : Array Value) (hp : a.heap.size ≤ g) : Nx a (b.setRow g cs) :=
  ⟨h.os, h.tape, h.output, by rw [size_setRow]; exact h.size, fun k hk => by rw [setRow_other _ _ _ _ (by omega)]; exact h.block k hk⟩
theorem Row.setRow {w : World} {g : Nat} {old : Array Value} {t : TypeId} (h : Row w g old t) (cs : Array Value) : Row (w.setRow g cs) g cs t := setRow_heap w g old cs t (0, 0) h
theorem Row.setRow_other {w : World} {g k : Nat} {cs : Array Value} {t : TypeId} (h : Row w g cs t) (new : Array Value) (hk : g ≠ k) : Row (w.setRow k new) g cs t := by
  unfold Row
  rw [Go.setRow_other _ _ _ _ hk]; exact h
end Go.Proofs.Ytdbokmhkgkgnfaa
