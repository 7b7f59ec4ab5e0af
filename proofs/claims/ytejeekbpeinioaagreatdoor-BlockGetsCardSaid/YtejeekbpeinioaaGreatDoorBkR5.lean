/- LAYER 10, the document's: Read. -/
import Derived.Test.YtejeekbpeinioaaGreatDoorBkR4
namespace Go.Proofs.YtejeekbpeinioaaGreatDoor
open Go Go.RowKit
set_option linter.unusedVariables false
set_option linter.unusedSimpArgs false
set_option linter.unusedVariables false
set_option linter.unusedSimpArgs false

set_option maxRecDepth 100000 in
set_option maxHeartbeats 8000000 in
theorem rbread_any (v : Value) (l : List UInt8) (w : World) (h : Rd w v l) (hr : l.length ≤ 140737488355328) :
    Calls Tryz.prog 23 #[v] w fun e w' => ∃ tv, e = .returned (.tuple #[.agg (blc (brT l).1 tv), .int .i64 (brT l).2]) ∧ BlAt w' tv (brT l).1 ∧ Nx w w' := by
  have HRD := Lib.hid h
  have HLN := Lib.hid hr
  have HGE := Lib.hid (fun w h => rbget_any v l 0 w h hr)
  obtain ⟨A, c, rfl, -⟩ := h
  have HA := Lib.hid (fun h => br_a (l := l) h)
  have HBx := Lib.hid (fun h h2 => br_b (l := l) h h2)
  have HC := Lib.hid (fun h h2 => br_c (l := l) h h2)
  have HOK := Lib.hid (bgT_ok l 0)
  have HLE : Hid ((bgT l 0).2.2 = 0 → (bgT l 0).2.1 ≤ (l.length : Int)) := Lib.hid (fun h => by obtain ⟨_, i, k, _, h2, h3, _⟩ := bl_got h; rw [h2]; omega)
  obtain ⟨hz, hzs⟩ := zero_of_info info_blz
  have bsz := Lib.hid (blocksz blZ (.slice none 0 0) HOkZ)
  have bsE0 := Lib.hid (fun (B : Blk) tv h => blcsame blZ B (.slice none 0 0) tv HOkZ h)
  have oZB := Lib.hid (blc_one blZ (.slice none 0 0) rfl)
  generalize hZB : blc blZ (.slice none 0 0) = ZB at *
  have HZB := Lib.hid hZB
  clear hZB
  have R0 := Lib.hid (Row.new w ZB 29 _ rfl)
  have N0 := Lib.hid ((Nx.refl w).alloc (.cells ZB 29))
  clear hr
  generalize bgT l 0 = T at *
  obtain ⟨BB, q, E⟩ := T
  dsimp only at *
  go_enter Tryz.func23, Tryz.ntmps23
  go_wp2_with fail
  refine (HGE.out _ (HRD.out.nx N0.out)).mono ?_
  rintro e w1 ⟨tv, rfl, hb, n1⟩
  have hb0 := hb w1 (Above.of_nx (Nx.refl _))
  obtain ⟨A1, c1, rfl, -⟩ := hb0.x.elem
  have R1 := R0.out.nx n1
  have N1 := Lib.hid (N0.out.trans n1)
  have hne : w.heap.size ≠ w1.heap.size := by have := R1.lt; omega
  have RX := Row.new w1 ZB 29 _ rfl
  have bsB := Lib.hid (blocksz BB (.slice A1 BB.txs.length c1) HOK.out)
  have bsE := Lib.hid (bsE0.out BB (.slice A1 BB.txs.length c1) HOK.out)
  have oB := Lib.hid (blc_one BB (.slice A1 BB.txs.length c1) rfl)
  have NX1 := Lib.hid (((Nx.refl w1).alloc (.cells ZB 29)).setRow (g := w1.heap.size) (blc BB (.slice A1 BB.txs.length c1)) (Nat.le_refl _))
  have HLT : Hid (w.heap.size < (w.alloc (.cells ZB 29)).heap.size) := Lib.hid (by simp)
  have BL2 : Hid (∀ cs, BlAt (((w1.alloc (.cells ZB 29)).setRow w1.heap.size (blc BB (.slice A1 BB.txs.length c1))).setRow w.heap.size cs) (.slice A1 BB.txs.length c1) BB) := Lib.hid (fun cs => hb _ ((Above.of_nx NX1.out).trans (Above.setRow HLT.out)))
  generalize hZC : blc BB (.slice A1 BB.txs.length c1) = ZC at *
  have HZC := Lib.hid hZC
  clear hZC
  have RX2 := RX.setRow ZC
  have R2 := R1.nx NX1.out
  have N2 := Lib.hid (N1.out.trans NX1.out)
  clear n1 R0 N0 HGE R1 N1 hne hb hb0 NX1
  by_cases hE : E = 0
  · subst hE
    by_cases hq : q = (l.length : Int)
    · subst hq
      have HB := Lib.hid (HC.out (by trivial) (by trivial))
      have dq : ¬ (l.length : Int) < (l.length : Int) := by omega
      go_wp2_with (first | (refine wpList_store_row rfl 29 (.tmp 4) (.tmp 10) rfl w1.heap.size ZC rfl rfl 29 ZB RX bsB.out bsE.out oB.out ?_) | (refine wpList_load_row rfl 29 (.tmp 4) rfl w1.heap.size rfl 29 ZC (0, 0) _ RX2 Tryz.underlying29 rfl bsB.out ?_) | (refine wpList_store_row rfl 29 (.tmp 2) (.tmp 22) rfl w.heap.size ZC rfl rfl 29 ZB R2 bsB.out bsE.out oB.out ?_))
      refine bodyPost_ret (v := .tuple #[.agg ZC, .int .i64 0]) ?_ ?_ ?_
      · exact results_cell_row2 Tryz.results23 _ _ w.heap.size 29 ZC (0, 0) _ rfl (R2.setRow ZC) Tryz.underlying29 rfl bsB.out
      · rfl
      · exact ⟨.slice A1 BB.txs.length c1, by rw [HB.out, HZC.out], by rw [HB.out]; exact BL2.out _, N2.out.setRow _ (Nat.le_refl _)⟩
    · have HB := Lib.hid (HBx.out (by trivial) (by first | exact hq | simpa using hq))
      have dq : q < (l.length : Int) := by have := HLE.out (by trivial); omega
      clear hq
      go_wp2_with (first | (refine wpList_store_row rfl 29 (.tmp 4) (.tmp 10) rfl w1.heap.size ZC rfl rfl 29 ZB RX bsB.out bsE.out oB.out ?_) | (refine wpList_store_row rfl 29 (.tmp 2) (.tmp 21) rfl w.heap.size ZB rfl rfl 29 ZB R2 bsz.out rfl oZB.out ?_))
      refine bodyPost_ret (v := .tuple #[.agg ZB, .int .i64 5]) ?_ ?_ ?_
      · exact results_cell_row2 Tryz.results23 _ _ w.heap.size 29 ZB (0, 0) _ rfl (R2.setRow ZB) Tryz.underlying29 rfl bsz.out
      · rfl
      · exact ⟨.slice none 0 0, by rw [HB.out, HZB.out], by rw [HB.out]; exact blAt_z _, N2.out.setRow _ (Nat.le_refl _)⟩
  · have HB := Lib.hid (HA.out (by first | exact hE | simpa using hE))
    have dE : (E != 0) = true := by simp [hE]
    clear hE
    go_wp2_with (first | (refine wpList_store_row rfl 29 (.tmp 4) (.tmp 10) rfl w1.heap.size ZC rfl rfl 29 ZB RX bsB.out bsE.out oB.out ?_) | (refine wpList_store_row rfl 29 (.tmp 2) (.tmp 15) rfl w.heap.size ZB rfl rfl 29 ZB R2 bsz.out rfl oZB.out ?_))
    refine bodyPost_ret (v := .tuple #[.agg ZB, .int .i64 E]) ?_ ?_ ?_
    · exact results_cell_row2 Tryz.results23 _ _ w.heap.size 29 ZB (0, 0) _ rfl (R2.setRow ZB) Tryz.underlying29 rfl bsz.out
    · rfl
    · exact ⟨.slice none 0 0, by rw [HB.out, HZB.out], by rw [HB.out]; exact blAt_z _, N2.out.setRow _ (Nat.le_refl _)⟩
end Go.Proofs.YtejeekbpeinioaaGreatDoor
