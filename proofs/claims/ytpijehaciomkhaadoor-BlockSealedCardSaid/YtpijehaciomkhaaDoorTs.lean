/- TEXTS OF OUR OWN, IN ONE FILE. -/
import Derived.Test.YtpijehaciomkhaaDoorTr
import Derived.Test.YtpijehaciomkhaaDoorTg
import Derived.Test.YtpijehaciomkhaaDoorTa
section
namespace Go.Proofs.YtpijehaciomkhaaDoor
open Go Go.RowKit
set_option linter.unusedVariables false
set_option linter.unusedSimpArgs false
set_option linter.unusedVariables false
set_option linter.unusedSimpArgs false

theorem quiet_load_at {P : Program} {o : Oper} {a : Act} {C : World → Prop} {next : Act → Prop} (ty : TypeId) (x : Operand) (ho : o.op = .load ty x) (g k : Nat) (hx : a.eval x = .pointer (some ⟨g, k, none⟩))
    (vs : Array Value) (d : TypeDesc) (hC : ∀ w, C w → ∀ j v, vs[j]? = some v → w.cell? ⟨g, k + j, none⟩ = some v) (hu : P.underlying ty = some d) (hd : (match d with | .struct _ | .array _ _ => true | _ => false) = true)
    (hi : (P.info? ty).map (·.size) = some vs.size) (h : next (a.put o.dst (.agg vs))) : o.quiet P a C next := by
  refine ⟨.agg vs, fun w hw => ?_, h⟩
  unfold Oper.quietAt execOp
  simp only [ho, hx, Instr.loadAt, Instr.sureAddr, Sem.run_bind, Sem.run_pure, Result.andThen_ok, run_loadVar_at w g k ty vs d (hC w hw) hu hd hi]
  exact ⟨rfl, rfl⟩
theorem quiet_val {P : Program} {o : Oper} {a : Act} {C : World → Prop} {next : Act → Prop} (v : Value) (hr : ∀ w, (execOp a.eval o).run P w = .ok (.value v) w) (h : next (a.put o.dst v)) : o.quiet P a C next := by
  refine ⟨v, fun w hw => ?_, h⟩
  unfold Oper.quietAt
  rw [hr w]
  exact ⟨rfl, rfl⟩
theorem in_at {w : World} {v : Value} {es : List Inp} (h : RdE inEl w v es) (j : Nat) (hj : j < es.length) : ∃ b o c u, v = .slice (some ⟨b, o, none⟩) es.length c ∧ b < w.heap.size ∧ (∀ i x, (pcel es[j].x es[j].n es[j].h)[i]? = some x → w.cell? ⟨b, o + j * 35 + i, none⟩ = some x) ∧ w.cell? ⟨b, o + j * 35 + 34, none⟩ = some u ∧ Rd w u es[j].u ∧ InOk es[j] := by
  obtain ⟨A, c, rfl, h1, h2, hv⟩ := h.elem
  obtain ⟨b, o, cs, rfl, hb, ⟨u, rfl, hok, hr⟩, hcs⟩ := hv j hj
  refine ⟨b, o, c, u, rfl, hb, fun i x hx => ?_, ?_, hr.1, hok⟩
  · have := icel_p es[j] u i x hx
    exact hcs i x (by simpa [icel] using this)
  · have := icel_u es[j] u hok
    exact hcs 34 u (by simpa [icel] using this)
theorem out_at {w : World} {v : Value} {es : List Outp} (h : RdE outEl w v es) (j : Nat) (hj : j < es.length) : ∃ b o c u, v = .slice (some ⟨b, o, none⟩) es.length c ∧ b < w.heap.size ∧ w.cell? ⟨b, o + j * 2, none⟩ = some (.int .u64 (es[j].v : Int)) ∧ w.cell? ⟨b, o + j * 2 + 1, none⟩ = some u ∧ Rd w u es[j].l := by
  obtain ⟨A, c, rfl, h1, h2, hv⟩ := h.elem
  obtain ⟨b, o, cs, rfl, hb, ⟨u, rfl, hok, hr⟩, hcs⟩ := hv j hj
  exact ⟨b, o, c, u, rfl, hb, hcs 0 _ rfl, hcs 1 _ rfl, hr.1⟩
theorem eq_point_yes (tx : List UInt8) (n h : Nat) (hx : tx.length = 32) (w : World) : (Op.equalIn 10000 42 (.agg (pcel tx n h)) (.agg (pcel tx n h))).run Tryd.prog w = .ok true w := by
  rw [eq_point2 tx tx n h n h hx hx w]; simp
end Go.Proofs.YtpijehaciomkhaaDoor
end
