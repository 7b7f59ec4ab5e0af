/- LAYER 10: a sealed block's transactions, of which the bytes are spoilt. -/
import Derived.Test.YtejeekbpeinioaaGreatDoorBi
import Derived.Test.YtejeekbpeinioaaGreatDoorTx20
namespace Go.Proofs.YtejeekbpeinioaaGreatDoor
open Go Go.RowKit
set_option linter.unusedVariables false
set_option linter.unusedSimpArgs false
set_option linter.unusedVariables false
set_option linter.unusedSimpArgs false

theorem wp_nei_ofB {P : Program} {o : Oper} {a : Act} {w : World} {K : Act → World → Prop} {Q : Exit → Act → World → Prop} (dst : Option Tmp) (hd : o.dst = dst) (T : TypeId) (x y : Operand) (T' : TypeId) (ho : o.op = .binOp .neq T x y T') (k : IntKind) (z : Int)
    (hx : a.eval x = .int k z) (hy : a.eval y = .int k z) (h : K (a.put dst (.bool false)) w) : o.wp P a w K Q := by
  refine wp_val_of dst hd (.bool false) ?_ h
  unfold execOp
  simp only [ho, hx, hy]
  have e1 : (eqGuard .neq T x y (.int k z) (.int k z)).run P w = .ok () w := by
    simp [eqGuard]
  have e2 : (binOp .neq T (.int k z) (.int k z)).run P w = .ok (.bool false) w := by
    simp [binOp, Op.intCmp]
  simp only [Sem.run_bind, e1, e2, Result.andThen_ok, Sem.run_pure]
/-- Transactions whose bytes lie from block B1 on, below B2. -/
def TxsSp (B1 B2 : Nat) (w : World) (v : Value) (es : List Txn) : Prop := ∀ j (hj : j < es.length), ∃ ga A c A' c', v = .slice (some ⟨ga, 0, none⟩) es.length es.length ∧
  w.cell? ⟨ga, 0 + j * 3, none⟩ = some (.slice A es[j].ins.length c) ∧ w.cell? ⟨ga, 0 + j * 3 + 1, none⟩ = some (.slice A' es[j].outs.length c') ∧ w.cell? ⟨ga, 0 + j * 3 + 2, none⟩ = some (.int .u32 (es[j].after : Int)) ∧ ga < w.heap.size ∧
  es[j].ins.length ≤ 9223372036854775807 ∧ es[j].outs.length ≤ 9223372036854775807 ∧ es.length ≤ 16 ∧ InsSp B1 B2 w (.slice A es[j].ins.length c) es[j].ins ∧ OutsSp B1 B2 w (.slice A' es[j].outs.length c') es[j].outs
theorem TxsSp.of {B : Nat} {w : World} {v : Value} {es : List Txn} (h : NewT B w v es) : TxsSp B w.heap.size w v es := by
  intro j hj
  rcases h with ⟨rfl, -⟩ | ⟨ga, fs, rfl, hb, hl, hr, hn⟩
  · simp at hj
  obtain ⟨iv, ov, hc, ht⟩ := hn.2 j hj
  obtain ⟨A, c, A', c', rfl, rfl⟩ := ht.at.slv
  have hcell : ∀ i u, (tcl (.slice A es[j].ins.length c) (.slice A' es[j].outs.length c') es[j].after)[i]? = some u → w.cell? ⟨ga, 0 + j * 3 + i, none⟩ = some u := fun i u hu => by
    have hi : i < 3 := by have := (List.getElem?_eq_some_iff.1 hu).1; simpa [tcl] using this
    rw [← hc] at hu
    rw [Nat.zero_add]
    refine hr.cell ?_
    simp only [El.cut, txE] at hu
    rw [List.getElem?_take_of_lt (by omega), List.getElem?_drop] at hu
    simpa using hu
  refine ⟨ga, A, c, A', c', rfl, hcell 0 _ rfl, hcell 1 _ rfl, hcell 2 _ rfl, hr.lt, ?_, ?_, hl, InsSp.of (ht.i.mono (by omega)), OutsSp.of (ht.o.mono (by omega))⟩
  · obtain ⟨_, _, e, h1, h2, -⟩ := ht.at.i.elem; unfold maxLen at h2; omega
  · obtain ⟨_, _, e, h1, h2, -⟩ := ht.at.o.elem; unfold maxLen at h2; omega
theorem TxsSp.nx {B1 B2 : Nat} {w w' : World} {v : Value} {es : List Txn} (h : TxsSp B1 B2 w v es) (k : Nx w w') : TxsSp B1 B2 w' v es := by
  intro j hj
  obtain ⟨ga, A, c, A', c', e, m0, m1, m2, hg, b1, b2, b3, si, so⟩ := h j hj
  exact ⟨ga, A, c, A', c', e, by rw [k.cell (p := ⟨ga, 0 + j * 3, none⟩) hg]; exact m0, by rw [k.cell (p := ⟨ga, 0 + j * 3 + 1, none⟩) hg]; exact m1, by rw [k.cell (p := ⟨ga, 0 + j * 3 + 2, none⟩) hg]; exact m2, Nat.lt_of_lt_of_le hg k.size, b1, b2, b3, si.nx k, so.nx k⟩
theorem TxsSp.go {B1 B2 : Nat} {w : World} {v : Value} {es : List Txn} (h : TxsSp B1 B2 w v es) (j : Nat) (hj : j < es.length) : ∃ ga A c A' c', v = .slice (some ⟨ga, 0, none⟩) es.length es.length ∧
    (∀ W, Rl B1 B2 w W → W.cell? ⟨ga, j * 3, none⟩ = some (.slice A es[j].ins.length c) ∧ W.cell? ⟨ga, j * 3 + 1, none⟩ = some (.slice A' es[j].outs.length c')) ∧
    es[j].ins.length ≤ 9223372036854775807 ∧ es[j].outs.length ≤ 9223372036854775807 ∧ es.length ≤ 16 ∧ InsSp B1 B2 w (.slice A es[j].ins.length c) es[j].ins ∧ OutsSp B1 B2 w (.slice A' es[j].outs.length c') es[j].outs := by
  obtain ⟨ga, A, c, A', c', e, m0, m1, m2, hg, b1, b2, b3, si, so⟩ := h j hj
  refine ⟨ga, A, c, A', c', e, fun W x => ?_, b1, b2, b3, si, so⟩
  have hs := x.same m2 (fun y e => by simp [bv] at e)
  rw [Nat.zero_add] at m0 m1
  unfold World.cell? at m0 m1 ⊢
  exact ⟨by rw [hs]; exact m0, by rw [hs]; exact m1⟩
end Go.Proofs.YtejeekbpeinioaaGreatDoor
