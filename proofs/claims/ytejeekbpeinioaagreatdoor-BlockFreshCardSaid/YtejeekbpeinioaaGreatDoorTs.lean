/- TEXTS OF OUR OWN, IN ONE FILE. -/
import Derived.Test.YtejeekbpeinioaaGreatDoorTr
import Derived.Test.YtejeekbpeinioaaGreatDoorTg
import Derived.Test.YtejeekbpeinioaaGreatDoorTa
section
namespace Go.Proofs.YtejeekbpeinioaaGreatDoor
open Go Go.RowKit
set_option linter.unusedVariables false
set_option linter.unusedSimpArgs false
set_option linter.unusedVariables false
set_option linter.unusedSimpArgs false

theorem quiet_load_at {P : Program} {o : Oper} {a : Act} {C : World → Prop} {next : Act → Prop} (ty : TypeId) (x : Operand) (ho : o.op = .load ty x) (g k : Nat) (hx : a.eval x = .pointer (some ⟨g, k, none⟩))
    (vs : Array Value) (d : TypeDesc) (hC : ∀ w, C w → ∀ j v, vs[j]? = some v → w.cell? ⟨g, k + j, none⟩ = some v) (hu : P.underlying ty = some d) (hd : (match d with | .struct _ | .array _ _ => true | _ => false) = true)
    (hi : (P.info? ty).map (·.size) = some vs.size) (h : next (a.put o.dst (.agg vs))) : o.quiet P a C next := by
  refine ⟨.agg vs, fun w hw => ?_, h⟩
  unfold Oper.quietAt execOp
  simp only [ho, hx, Instr.loadAt, Instr.sureAddr, Sem.run_bind, Sem.run_pure, Result.andThen_ok, run_loadVar_at w g k ty vs d (hC w hw) hu hd hi]
  exact ⟨rfl, rfl⟩
theorem quiet_val {P : Program} {o : Oper} {a : Act} {C : World → Prop} {next : Act → Prop} (v : Value) (hr : ∀ w, (execOp a.eval o).run P w = .ok (.value v) w) (h : next (a.put o.dst v)) : o.quiet P a C next := by
  refine ⟨v, fun w hw => ?_, h⟩
  unfold Oper.quietAt
  rw [hr w]
  exact ⟨rfl, rfl⟩
theorem in_at {w : World} {v : Value} {es : List Inp} (h : RdE inEl w v es) (j : Nat) (hj : j < es.length) : ∃ b o c u, v = .slice (some ⟨b, o, none⟩) es.length c ∧ b < w.heap.size ∧ (∀ i x, (pcel es[j].x es[j].n es[j].h)[i]? = some x → w.cell? ⟨b, o + j * 35 + i, none⟩ = some x) ∧ w.cell? ⟨b, o + j * 35 + 34, none⟩ = some u ∧ Rd w u es[j].u ∧ InOk es[j] := by
  obtain ⟨A, c, rfl, h1, h2, hv⟩ := h.elem
  obtain ⟨b, o, cs, rfl, hb, ⟨u, rfl, hok, hr⟩, hcs⟩ := hv j hj
  refine ⟨b, o, c, u, rfl, hb, fun i x hx => ?_, ?_, hr.1, hok⟩
  · have := icel_p es[j] u i x hx
    exact hcs i x (by simpa [icel] using this)
  · have := icel_u es[j] u hok
    exact hcs 34 u (by simpa [icel] using this)
theorem out_at {w : World} {v : Value} {es : List Outp} (h : RdE outEl w v es) (j : Nat) (hj : j < es.length) : ∃ b o c u, v = .slice (some ⟨b, o, none⟩) es.length c ∧ b < w.heap.size ∧ w.cell? ⟨b, o + j * 2, none⟩ = some (.int .u64 (es[j].v : Int)) ∧ w.cell? ⟨b, o + j * 2 + 1, none⟩ = some u ∧ Rd w u es[j].l := by
  obtain ⟨A, c, rfl, h1, h2, hv⟩ := h.elem
  obtain ⟨b, o, cs, rfl, hb, ⟨u, rfl, hok, hr⟩, hcs⟩ := hv j hj
  exact ⟨b, o, c, u, rfl, hb, hcs 0 _ rfl, hcs 1 _ rfl, hr.1⟩
theorem eq_point_yes (tx : List UInt8) (n h : Nat) (hx : tx.length = 32) (w : World) : (Op.equalIn 10000 57 (.agg (pcel tx n h)) (.agg (pcel tx n h))).run Tryz.prog w = .ok true w := by
  rw [eq_point2 tx tx n h n h hx hx w]; simp
set_option maxRecDepth 100000 in
set_option maxHeartbeats 8000000 in
theorem rsameT_yes (iv ov iv' ov' : Value) (t : Txn) (w : World) (h1 : TxAt w iv ov t) (h2 : TxAt w iv' ov' t) :
    Calls Tryz.prog 44 #[.agg (tcel iv ov t.after), .agg (tcel iv' ov' t.after)] w fun e w' => e = .returned (.bool true) ∧ Nx w w' := by
  obtain ⟨A, c, rfl, hc, hm, -⟩ := h1.i.elem
  obtain ⟨B, d, rfl, hd, hm2, -⟩ := h1.o.elem
  obtain ⟨A', c', rfl, -⟩ := h2.i.elem
  obtain ⟨B', d', rfl, -⟩ := h2.o.elem
  unfold maxLen at hm hm2
  have hj1 : (t.ins.length : Int) ≤ 9223372036854775807 := by omega
  have hj2 : (t.outs.length : Int) ≤ 9223372036854775807 := by omega
  have HL1 := Lib.hid hj1
  have HL2 := Lib.hid hj2
  clear hc hd hm hm2 hj1 hj2
  have N0 := ((Nx.refl w).alloc (.cells (tcel (.slice A t.ins.length c) (.slice B t.outs.length d) t.after) 54)).alloc (.cells (tcel (.slice A' t.ins.length c') (.slice B' t.outs.length d') t.after) 54)
  have NN := Lib.hid N0
  have K0 := Lib.hid ((Row.new w (tcel (.slice A t.ins.length c) (.slice B t.outs.length d) t.after) 54 _ rfl).alloc (.cells (tcel (.slice A' t.ins.length c') (.slice B' t.outs.length d') t.after) 54))
  have K1 := Lib.hid (Row.new2 w (.cells (tcel (.slice A t.ins.length c) (.slice B t.outs.length d) t.after) 54) (tcel (.slice A' t.ins.length c') (.slice B' t.outs.length d') t.after) 54)
  have HI1 := Lib.hid (h1.i.nx N0)
  have HI2 := Lib.hid (h2.i.nx N0)
  have HO1 := Lib.hid (h1.o.nx N0)
  have HO2 := Lib.hid (h2.o.nx N0)
  have a0 := K0.out.cell (i := 0) (v := .slice A t.ins.length c) rfl
  have a1 := K0.out.cell (i := 1) (v := .slice B t.outs.length d) rfl
  have a2 := K0.out.cell (i := 2) (v := .int .u32 (t.after : Int)) rfl
  have b0 := K1.out.cell (i := 0) (v := .slice A' t.ins.length c') rfl
  have b1 := K1.out.cell (i := 1) (v := .slice B' t.outs.length d') rfl
  have b2 := K1.out.cell (i := 2) (v := .int .u32 (t.after : Int)) rfl
  have e1 : ((t.after : Int) != (t.after : Int)) = false := by simp
  have e2 : ((t.ins.length : Int) != (t.ins.length : Int)) = false := by simp
  have e3 : ((t.outs.length : Int) != (t.outs.length : Int)) = false := by simp
  clear h1 h2 N0
  unfold tcel at *
  go_enter Tryz.func44, Tryz.ntmps44
  go_wp2_with fail
  clear e1 e2 e3
  generalize (w.alloc (.cells #[.slice A t.ins.length c, .slice B t.outs.length d, .int .u32 (t.after : Int)] 54)).alloc (.cells #[.slice A' t.ins.length c', .slice B' t.outs.length d', .int .u32 (t.after : Int)] 54) = W at *
  clear a0 a1 a2 b0 b1 b2
  go_loopw [5] (fun i wr => ∃ j : Nat, j ≤ t.ins.length ∧ i = .int .i64 j ∧ Nx W wr) (fun i _ => t.ins.length - (intOf i).toNat)
  case atStart => exact ⟨0, by omega, rfl, Nx.refl _⟩
  case round =>
    obtain ⟨j, hj, rfl, hx⟩ := hrel
    have HX := Lib.hid hx
    have k0 := (K0.out.nx hx).cell (i := 0) (v := .slice A t.ins.length c) rfl
    have k1 := (K1.out.nx hx).cell (i := 0) (v := .slice A' t.ins.length c') rfl
    by_cases hlt : j < t.ins.length
    · obtain ⟨b, o, c1, u, e, hb, g0, g1, hr, hok⟩ := in_at HI1.out j hlt
      obtain ⟨d1, q, c2, z, e', hd, f0, f1, hq, -⟩ := in_at HI2.out j hlt
      injection e with e1 e2 e3
      subst e1
      injection e' with e4 e5 e6
      subst e4
      have hlt' : (j : Int) < (t.ins.length : Int) := by omega
      have hj0 : (0 : Int) ≤ (j : Int) := by omega
      have hw1 : wrap64 ((j : Int) + 1) = (j : Int) + 1 := by have := HL1.out; unfold wrap64; omega
      have HR1 := Lib.hid hr
      have HR2 := Lib.hid hq
      obtain ⟨B9, d9, rfl, -⟩ := hr
      obtain ⟨B8, d8, rfl, -⟩ := hq
      generalize t.ins[j] = a at *
      obtain ⟨X, N, H, l⟩ := a
      dsimp only at g0 g1 f0 f1 HR1 HR2
      have HPS := Lib.hid (pointsz X N H hok.1)
      have HEQ := Lib.hid (fun w => eq_point_yes X N H hok.1 w)
      have HG0 := Lib.hid (fun (w' : World) (hw : ∃ p : Regrown, w' = Sort.grow (redrawn wr p.d) p.os) i x (h : (pcel X N H)[i]? = some x) => show w'.cell? ⟨b, o + j * 35 + i, none⟩ = some x by
        obtain ⟨p, rfl⟩ := hw
        exact cell_regrown ((hx.cell (p := ⟨b, o + j * 35 + i, none⟩) hb).trans (g0 i x h)) p.d p.os)
      have HF0 := Lib.hid (fun (w' : World) (hw : ∃ p : Regrown, w' = Sort.grow (redrawn wr p.d) p.os) i x (h : (pcel X N H)[i]? = some x) => show w'.cell? ⟨d1, q + j * 35 + i, none⟩ = some x by
        obtain ⟨p, rfl⟩ := hw
        exact cell_regrown ((hx.cell (p := ⟨d1, q + j * 35 + i, none⟩) hd).trans (f0 i x h)) p.d p.os)
      have G1 := (hx.cell (p := ⟨b, o + j * 35 + 34, none⟩) hb).trans g1
      have F1 := (hx.cell (p := ⟨d1, q + j * 35 + 34, none⟩) hd).trans f1
      have q0 : ∀ dd os, (Sort.grow (redrawn wr dd) os).cell? ⟨w.heap.size, 0, none⟩ = some (.slice (some ⟨b, o, none⟩) t.ins.length c) := fun dd os => cell_regrown k0 dd os
      have q1 : ∀ dd os, (Sort.grow (redrawn wr dd) os).cell? ⟨w.heap.size + 1, 0, none⟩ = some (.slice (some ⟨d1, q, none⟩) t.ins.length c') := fun dd os => cell_regrown k1 dd os
      have q2 : ∀ dd os, (Sort.grow (redrawn wr dd) os).cell? ⟨b, o + j * 35 + 34, none⟩ = some (.slice B9 l.length d9) := fun dd os => cell_regrown G1 dd os
      have q3 : ∀ dd os, (Sort.grow (redrawn wr dd) os).cell? ⟨d1, q + j * 35 + 34, none⟩ = some (.slice B8 l.length d8) := fun dd os => cell_regrown F1 dd os
      have HS : Hid (∀ w0, Below wr.heap.size wr w0 → Calls Tryz.prog 15 #[.slice B9 l.length d9, .slice B8 l.length d8] w0 fun e w' => e = .returned (.bool true) ∧ Below w0.heap.size w0 w') := Lib.hid fun w0 n0 => same_yes _ _ l w0 (HR1.out.nx (HX.out.trans n0)) (HR2.out.nx (HX.out.trans n0))
      clear g0 g1 f0 f1 G1 F1 HR1 HR2 e2 e3 e5 e6 hb hd hx hok
      go_wp2
      clear k0 k1
      refine wp_region_quiet_below (by kernel_rfl) (by kernel_rfl) ?_
      iterate 29 (first
        | (refine wpQuiet_step (fun K hK => ?_); rw [if_pos (by rfl)]; refine quiet_load_at 57 (.tmp 41) rfl b (o + j * 35) rfl (pcel X N H) _ HG0.out Tryz.underlying57 rfl HPS.out ?_; refine hK _ ?_; clear hK K; simp only [Act.put, List.setIfInBounds_toArray, List.set_cons_zero, List.set_cons_succ])
        | (refine wpQuiet_step (fun K hK => ?_); rw [if_pos (by rfl)]; refine quiet_load_at 57 (.tmp 47) rfl d1 (q + j * 35) rfl (pcel X N H) _ HF0.out Tryz.underlying57 rfl HPS.out ?_; refine hK _ ?_; clear hK K; simp only [Act.put, List.setIfInBounds_toArray, List.set_cons_zero, List.set_cons_succ])
        | (refine wpQuiet_step (fun K hK => ?_); rw [if_pos (by rfl)]; refine quiet_val (.bool false) (fun w => run_neqp 57 (.tmp 42) (.tmp 48) _ rfl _ _ rfl rfl (by kernel_rfl) true (HEQ.out w)) ?_; refine hK _ ?_; clear hK K; simp only [Act.put, List.setIfInBounds_toArray, List.set_cons_zero, List.set_cons_succ])
        | quiet_step ((first
          | (go_at_call 15; with_reducible exact Calls.regrown_of (HS.out _ (below_regrown wr _ _))))))
      refine wpQuiet_nil ?_
      intro _ hw'
      obtain ⟨⟨dq, osq⟩, hw''⟩ := hw'
      subst hw''
      clear HG0 HF0 HPS HEQ HS q0 q1 q2 q3
      go_wp2
      rw [hw1]
      refine ⟨⟨j + 1, hlt, ?_, HX.out.trans (below_regrown wr dq osq)⟩, ?_⟩
      · rw [Int.natCast_add]; rfl
      · show t.ins.length - ((j : Int) + 1).toNat < t.ins.length - (j : Int).toNat
        clear HL1 HL2 hw1
        omega
    · have hlt' : ¬ (j : Int) < (t.ins.length : Int) := by omega
      clear hlt
      go_wp2_with fail
      clear hlt' k0 k1 HI1 HI2
      go_loopw [6] (fun i wr => ∃ k : Nat, k ≤ t.outs.length ∧ i = .int .i64 k ∧ Nx W wr) (fun i _ => t.outs.length - (intOf i).toNat)
      case atStart => exact ⟨0, by omega, rfl, HX.out⟩
      case round =>
        clear HX hx
        obtain ⟨k, hk, rfl, hx⟩ := hrel
        have HX := Lib.hid hx
        have k0 := (K0.out.nx hx).cell (i := 1) (v := .slice B t.outs.length d) rfl
        have k1 := (K1.out.nx hx).cell (i := 1) (v := .slice B' t.outs.length d') rfl
        by_cases hlt : k < t.outs.length
        · obtain ⟨b, o, c1, u, e, hb, g0, g1, hr⟩ := out_at HO1.out k hlt
          obtain ⟨d1, q, c2, z, e', hd, f0, f1, hq⟩ := out_at HO2.out k hlt
          injection e with e1 e2 e3
          subst e1
          injection e' with e4 e5 e6
          subst e4
          have hlt' : (k : Int) < (t.outs.length : Int) := by omega
          have hj0 : (0 : Int) ≤ (k : Int) := by omega
          have hw1 : wrap64 ((k : Int) + 1) = (k : Int) + 1 := by have := HL2.out; unfold wrap64; omega
          have HR1 := Lib.hid hr
          have HR2 := Lib.hid hq
          obtain ⟨B9, d9, rfl, -⟩ := hr
          obtain ⟨B8, d8, rfl, -⟩ := hq
          generalize t.outs[k] = a at *
          obtain ⟨V, l⟩ := a
          dsimp only at g0 g1 f0 f1 HR1 HR2
          have hno : ((V : Int) != (V : Int)) = false := by simp
          have q0 : ∀ dd os, (Sort.grow (redrawn wr dd) os).cell? ⟨w.heap.size, 1, none⟩ = some (.slice (some ⟨b, o, none⟩) t.outs.length d) := fun dd os => cell_regrown k0 dd os
          have q1 : ∀ dd os, (Sort.grow (redrawn wr dd) os).cell? ⟨w.heap.size + 1, 1, none⟩ = some (.slice (some ⟨d1, q, none⟩) t.outs.length d') := fun dd os => cell_regrown k1 dd os
          have G0 := (hx.cell (p := ⟨b, o + k * 2, none⟩) hb).trans g0
          have F0 := (hx.cell (p := ⟨d1, q + k * 2, none⟩) hd).trans f0
          have G1 := (hx.cell (p := ⟨b, o + k * 2 + 1, none⟩) hb).trans g1
          have F1 := (hx.cell (p := ⟨d1, q + k * 2 + 1, none⟩) hd).trans f1
          have q2 : ∀ dd os, (Sort.grow (redrawn wr dd) os).cell? ⟨b, o + k * 2, none⟩ = some (.int .u64 (V : Int)) := fun dd os => cell_regrown G0 dd os
          have q3 : ∀ dd os, (Sort.grow (redrawn wr dd) os).cell? ⟨d1, q + k * 2, none⟩ = some (.int .u64 (V : Int)) := fun dd os => cell_regrown F0 dd os
          have q4 : ∀ dd os, (Sort.grow (redrawn wr dd) os).cell? ⟨b, o + k * 2 + 1, none⟩ = some (.slice B9 l.length d9) := fun dd os => cell_regrown G1 dd os
          have q5 : ∀ dd os, (Sort.grow (redrawn wr dd) os).cell? ⟨d1, q + k * 2 + 1, none⟩ = some (.slice B8 l.length d8) := fun dd os => cell_regrown F1 dd os
          have HS : Hid (∀ w0, Below wr.heap.size wr w0 → Calls Tryz.prog 15 #[.slice B9 l.length d9, .slice B8 l.length d8] w0 fun e w' => e = .returned (.bool true) ∧ Below w0.heap.size w0 w') := Lib.hid fun w0 n0 => same_yes _ _ l w0 (HR1.out.nx (HX.out.trans n0)) (HR2.out.nx (HX.out.trans n0))
          clear g0 g1 f0 f1 G0 G1 F0 F1 HR1 HR2 e2 e3 e5 e6 hb hd hx
          go_wp2
          clear k0 k1
          refine wp_region_quiet_below (by kernel_rfl) (by kernel_rfl) ?_
          iterate 29 (
            quiet_step ((first
              | (go_at_call 15; with_reducible exact Calls.regrown_of (HS.out _ (below_regrown wr _ _))))))
          refine wpQuiet_nil ?_
          intro _ hw'
          obtain ⟨⟨dq, osq⟩, hw''⟩ := hw'
          subst hw''
          clear HS q0 q1 q2 q3 q4 q5 hno
          go_wp2
          rw [hw1]
          refine ⟨⟨k + 1, hlt, ?_, HX.out.trans (below_regrown wr dq osq)⟩, ?_⟩
          · rw [Int.natCast_add]; rfl
          · show t.outs.length - ((k : Int) + 1).toNat < t.outs.length - (k : Int).toNat
            clear HL1 HL2 hw1
            omega
        · have hlt' : ¬ (k : Int) < (t.outs.length : Int) := by omega
          clear hlt
          go_wp2_with fail
          go_ret
          exact ⟨rfl, NN.out.trans HX.out⟩
end Go.Proofs.YtejeekbpeinioaaGreatDoor
end
