/- LAYER 11: the document's step out of bytes. -/
import Derived.Laws.Rows
import Derived.Test.YtbhoflmdhlchlaaResCell
import Derived.Test.YtbhoflmdhlchlaaReadP
import Derived.Test.YtbhoflmdhlchlaaStack1
import Derived.Test.YtbhoflmdhlchlaaCutV
namespace Go.Proofs.Ytbhoflmdhlchlaa
open Go Go.RowKit
set_option linter.unusedVariables false
set_option linter.unusedSimpArgs false
set_option linter.unusedVariables false
set_option linter.unusedSimpArgs false

theorem built_step (x : Int) (A : Option Addr) (n c : Nat) : Try.prog.built 55 [(0, .int .u8 x), (1, .slice A n c)] = some #[.int .u8 x, .slice A n c] := by kernel_rfl
theorem built_step1 (x : Int) : Try.prog.built 55 [(0, .int .u8 x)] = some #[.int .u8 x, .slice none 0 0] := by kernel_rfl
theorem built_step0 : Try.prog.built 55 [] = some #[.int .u8 0, .slice none 0 0] := by kernel_rfl
def Stop (p : Prop) := p
theorem stop {p : Prop} (h : Stop p) : p := h
set_option maxRecDepth 100000 in
set_option maxHeartbeats 4000000 in
theorem one_any (v : Value) (b : List UInt8) (w : World) (h : Rd w v b) (hb : b ≠ []) (hn : b.length ≤ 140737488355328) :
    Calls Try.prog 54 #[v] w fun e w' => ∃ u, e = .returned (.tuple #[.agg #[.int .u8 ((oneS b).1.1.toNat : Int), u], .int .i64 ((oneS b).2.1 : Int), .int .i64 (oneS b).2.2]) ∧ Own w.heap.size w' u (oneS b).1.2 ∧ Nx w w' := by
  have HRD := Lib.hid (fun w' (n : Nx w w') => h.nx n)
  have hlen : 0 < b.length := List.length_pos_iff.2 hb
  obtain ⟨A, c, rfl, hbc, hcm, ha⟩ := h
  obtain ⟨bk, o, rfl, hbk, hcell⟩ := ha hlen
  have R0 := Row.new w #[.int .u8 0, .slice none 0 0] 55 _ rfl
  have N0 := (Nx.refl w).alloc (.cells #[.int .u8 0, .slice none 0 0] 55)
  have k0 := (N0.cell (p := ⟨bk, o + 0, none⟩) hbk).trans (hcell 0 hlen)
  have hg0 : b[0] = b.getD 0 0 := by simp [List.getD_eq_getElem?_getD, List.getElem?_eq_getElem hlen]
  rw [hg0, Nat.add_zero] at k0
  unfold bv at k0
  have hlt : (0 : Int) < (b.length : Int) := by omega
  have hnb : (b.length : Int) ≤ 140737488355328 := by omega
  have hl : w.heap.size ≤ w.heap.size := Nat.le_refl _
  have iz := Lib.hid (stepsz (.int .u8 0) (.slice none 0 0))
  have NN := Lib.hid N0
  clear hg0
  have hc256 := (b.getD 0 0).toNat_lt
  have HS0 : Hid ((w.alloc (.cells #[.int .u8 0, .slice none 0 0] 55)).heap.size = w.heap.size + 1) := Lib.hid (by simp)
  by_cases g1 : 128 < (b.getD 0 0).toNat
  · have hsub : (b.getD 0 0 - 127).toNat = (b.getD 0 0).toNat - 127 := by rw [UInt8.toNat_sub]; show (256 - 127 + (b.getD 0 0).toNat) % 256 = _; omega
    have HMAY : Hid (mayS ((b.getD 0 0).toNat - 127) 0 = decide ((b.getD 0 0).toNat ≤ 147)) := Lib.hid (by
      unfold mayS
      rw [if_neg (by omega), decide_eq_true (show 2 ≤ (b.getD 0 0).toNat - 127 by omega), show decide ((b.getD 0 0).toNat - 127 ≤ 20) = decide ((b.getD 0 0).toNat ≤ 147) from decide_eq_decide.2 (by omega)]
      simp)
    have HV : Hid (oneS b = if (b.getD 0 0).toNat ≤ 147 then ((b.getD 0 0 - 127, []), 1, 0) else ((0, []), 0, 5)) := Lib.hid (by unfold oneS; rw [if_pos g1])
    have HSB := Lib.hid hsub
    clear hcell hsub hbc hcm
    generalize b.getD 0 0 = c0 at *
    generalize oneS b = OB at *
    have hgt : (128 : Int) < (c0.toNat : Int) := by omega
    have hm1 : ((c0.toNat : Int) - 127) % 256 = ((c0.toNat - 127 : Nat) : Int) := by omega
    have hm2 : IntKind.u8.wrap ((c0.toNat : Int) - 127) = ((c0.toNat - 127 : Nat) : Int) := by rw [← hm1]; rfl
    have hm3 : wrap64 ((c0.toNat : Int) - 127) = (c0.toNat : Int) - 127 := by unfold wrap64; omega
    have HM := Lib.hid (may_any (c0.toNat - 127) (.slice none 0 0) [])
    generalize c0.toNat - 127 = q at *
    have R1 : Row ((w.alloc (.cells #[.int .u8 0, .slice none 0 0] 55)).alloc (.cells #[.int .u8 0, .slice none 0 0] 55)) (w.heap.size + 1) #[.int .u8 0, .slice none 0 0] 55 := Row.new2 _ _ _ _
    have R1s := R1.setRow #[.int .u8 (q : Int), .slice none 0 0]
    have R0s := (R0.alloc (.cells #[.int .u8 0, .slice none 0 0] 55)).setRow_other (k := w.heap.size + 1) #[.int .u8 (q : Int), .slice none 0 0] (by omega)
    have iq := Lib.hid (stepsz (.int .u8 (q : Int)) (.slice none 0 0))
    have NS := Lib.hid ((NN.out.alloc (.cells #[.int .u8 0, .slice none 0 0] 55)).setRow (g := w.heap.size + 1) #[.int .u8 (q : Int), .slice none 0 0] (by omega))
    clear R0 N0 g1
    go_enter Try.func54, Try.ntmps54
    go_wp2_with (first | (refine wpList_store_row rfl 55 (.tmp 8) (.tmp 19) rfl (w.heap.size + 1) #[.int .u8 (q : Int), .slice none 0 0] rfl rfl 55 #[.int .u8 0, .slice none 0 0] R1 iq.out rfl (stepone _ _ _ _) ?_) | (refine wpList_load_row rfl 55 (.tmp 8) rfl (w.heap.size + 1) rfl 55 #[.int .u8 (q : Int), .slice none 0 0] (0, 0) _ R1s Try.underlying55 rfl iq.out ?_))
    refine (HM.out _ (Rd.nil _)).mono ?_
    rintro e w1 ⟨rfl, n1⟩
    have R2 := R1s.nx n1
    have R3 := R0s.nx n1
    have N2 := Lib.hid (NS.out.trans n1)
    rw [List.length_nil, HMAY.out]
    clear n1 R1 R1s R0s k0 HMAY
    by_cases g2 : c0.toNat ≤ 147
    · rw [decide_eq_true g2]
      rw [if_pos g2] at HV
      clear g2
      go_wp2_with (first | (refine wpList_load_row rfl 55 (.tmp 8) rfl (w.heap.size + 1) rfl 55 #[.int .u8 (q : Int), .slice none 0 0] (0, 0) _ R2 Try.underlying55 rfl iq.out ?_) | (refine wpList_store_row rfl 55 (.tmp 2) (.tmp 24) rfl w.heap.size #[.int .u8 (q : Int), .slice none 0 0] rfl rfl 55 #[.int .u8 0, .slice none 0 0] R3 iq.out rfl (stepone _ _ _ _) ?_))
      exact bodyPost_ret (results_cell_three Try.results54 _ _ w.heap.size 55 #[.int .u8 (q : Int), .slice none 0 0] (0, 0) _ rfl (R3.setRow _) Try.underlying55 rfl iq.out) rfl (by rw [HV.out]; dsimp only; rw [HSB.out]; exact ⟨_, rfl, Own.nil _ _, N2.out.setRow _ hl⟩)
    · rw [decide_eq_false g2]
      rw [if_neg g2] at HV
      clear g2
      go_wp2_with (first | (refine wpList_store_row rfl 55 (.tmp 2) (.tmp 23) rfl w.heap.size #[.int .u8 0, .slice none 0 0] rfl rfl 55 #[.int .u8 0, .slice none 0 0] R3 iz.out rfl (stepone _ _ _ _) ?_))
      exact bodyPost_ret (results_cell_three Try.results54 _ _ w.heap.size 55 #[.int .u8 0, .slice none 0 0] (0, 0) _ rfl (R3.setRow _) Try.underlying55 rfl iz.out) rfl (by rw [HV.out]; exact ⟨_, rfl, Own.nil _ _, N2.out.setRow _ hl⟩)
  · have gle : ¬ (128 : Int) < ((b.getD 0 0).toNat : Int) := by omega
    by_cases g2 : (b.getD 0 0).toNat = 128
    · by_cases g3 : b.length < 3
      · have HV : Hid (oneS b = ((0, []), 0, 4)) := Lib.hid (by unfold oneS; rw [if_neg g1, if_pos g2, if_pos g3])
        have g3' : (b.length : Int) < 3 := by omega
        rw [g2] at k0
        clear hcell hbc hcm g1 g2 g3 gle hc256 N0
        generalize oneS b = OB at *
        go_enter Try.func54, Try.ntmps54
        go_wp2_with (first | (refine wpList_store_row rfl 55 (.tmp 2) (.tmp 30) rfl w.heap.size #[.int .u8 0, .slice none 0 0] rfl rfl 55 #[.int .u8 0, .slice none 0 0] R0 iz.out rfl (stepone _ _ _ _) ?_))
        exact bodyPost_ret (results_cell_three Try.results54 _ _ w.heap.size 55 #[.int .u8 0, .slice none 0 0] (0, 0) _ rfl (R0.setRow _) Try.underlying55 rfl iz.out) rfl (by rw [HV.out]; exact ⟨_, rfl, Own.nil _ _, NN.out.setRow _ hl⟩)
      · have g3' : ¬ (b.length : Int) < 3 := by omega
        have hlt1 : (1 : Int) < (b.length : Int) := by omega
        have hlt2 : (2 : Int) < (b.length : Int) := by omega
        have k1 := (N0.cell (p := ⟨bk, o + 1, none⟩) hbk).trans (hcell 1 (by omega))
        have k2 := (N0.cell (p := ⟨bk, o + 2, none⟩) hbk).trans (hcell 2 (by omega))
        have hg1 : b[1] = b.getD 1 0 := by simp [List.getD_eq_getElem?_getD, List.getElem?_eq_getElem (show 1 < b.length by omega)]
        have hg2 : b[2] = b.getD 2 0 := by simp [List.getD_eq_getElem?_getD, List.getElem?_eq_getElem (show 2 < b.length by omega)]
        rw [hg1] at k1
        rw [hg2] at k2
        unfold bv at k1 k2
        have HV0 : oneS b = if (b.getD 1 0).toNat + 256 * (b.getD 2 0).toNat < 128 ∨ 3000 < (b.getD 1 0).toNat + 256 * (b.getD 2 0).toNat then ((0, []), 0, 5) else if b.length - 3 < (b.getD 1 0).toNat + 256 * (b.getD 2 0).toNat then ((0, []), 0, 4) else ((1, (b.drop 3).take ((b.getD 1 0).toNat + 256 * (b.getD 2 0).toNat)), 3 + ((b.getD 1 0).toNat + 256 * (b.getD 2 0).toNat), 0) := by unfold oneS; rw [if_neg g1, if_pos g2, if_neg g3]
        have hx := (b.getD 1 0).toNat_lt
        have hy := (b.getD 2 0).toNat_lt
        have HBL := Lib.hid g3
        rw [g2] at k0
        clear hcell g1 g2 g3 gle hc256 hg1 hg2
        generalize b.getD 1 0 = x1 at *
        generalize b.getD 2 0 = x2 at *
        have hw1 : wrap64 (256 * (x2.toNat : Int)) = ((256 * x2.toNat : Nat) : Int) := by unfold wrap64; omega
        have hw2 : wrap64 ((x1.toNat : Int) + ((256 * x2.toNat : Nat) : Int)) = ((x1.toNat + 256 * x2.toNat : Nat) : Int) := by unfold wrap64; omega
        have hnn : x1.toNat + 256 * x2.toNat < 65792 := by omega
        have HNE : Hid (IntKind.i64.wrap (IntKind.i64.wrap (x1.toNat : Int) + IntKind.i64.wrap (256 * IntKind.i64.wrap (x2.toNat : Int))) = ((x1.toNat + 256 * x2.toNat : Nat) : Int)) := Lib.hid (by
          rw [IntWalk.i64_in (x1.toNat : Int) (by omega), IntWalk.i64_in (x2.toNat : Int) (by omega), IntWalk.i64_in (256 * (x2.toNat : Int)) (by omega), IntWalk.i64_in _ (by omega)]
          omega)
        generalize hN : x1.toNat + 256 * x2.toNat = n at *
        have q0 : ∀ dd os, (Sort.grow (redrawn (w.alloc (.cells #[.int .u8 0, .slice none 0 0] 55)) dd) os).cell? ⟨bk, o + 1, none⟩ = some (.int .u8 (x1.toNat : Int)) := fun dd os => cell_regrown k1 dd os
        have q1 : ∀ dd os, (Sort.grow (redrawn (w.alloc (.cells #[.int .u8 0, .slice none 0 0] 55)) dd) os).cell? ⟨bk, o + 2, none⟩ = some (.int .u8 (x2.toNat : Int)) := fun dd os => cell_regrown k2 dd os
        have HR0 := Lib.hid R0
        clear N0 R0 hN
        go_enter Try.func54, Try.ntmps54
        go_wp2
        refine wp_region_quiet_below (by kernel_rfl) (by kernel_rfl) ?_
        repeat (first
          | quiet_step (fail))
        refine wpQuiet_nil ?_
        intro _ hw'
        obtain ⟨⟨dq, osq⟩, hw''⟩ := hw'
        subst hw''
        rw [HNE.out]
        have NX := Lib.hid (NN.out.trans (below_regrown _ dq osq))
        have R0 := HR0.out.nx (below_regrown _ dq osq)
        clear q0 q1 k1 k2 k0 HR0
        by_cases g4 : n < 128
        · have HV : Hid (oneS b = ((0, []), 0, 5)) := Lib.hid (by rw [HV0, if_pos (.inl g4)])
          have g4' : (n : Int) < 128 := by omega
          clear g4 HV0 hnn
          generalize Sort.grow (redrawn (w.alloc (.cells #[.int .u8 0, .slice none 0 0] 55)) dq) osq = W at *
          go_wp2_with (first | (refine wpList_store_row rfl 55 (.tmp 2) (.tmp 47) rfl w.heap.size #[.int .u8 0, .slice none 0 0] rfl rfl 55 #[.int .u8 0, .slice none 0 0] R0 iz.out rfl (stepone _ _ _ _) ?_))
          exact bodyPost_ret (results_cell_three Try.results54 _ _ w.heap.size 55 #[.int .u8 0, .slice none 0 0] (0, 0) _ rfl (R0.setRow _) Try.underlying55 rfl iz.out) rfl (by rw [HV.out]; exact ⟨_, rfl, Own.nil _ _, NX.out.setRow _ hl⟩)
        have g4' : ¬ (n : Int) < 128 := by omega
        by_cases g5 : 3000 < n
        · have HV : Hid (oneS b = ((0, []), 0, 5)) := Lib.hid (by rw [HV0, if_pos (.inr g5)])
          have g5' : (3000 : Int) < (n : Int) := by omega
          clear g4 g5 HV0 hnn
          generalize Sort.grow (redrawn (w.alloc (.cells #[.int .u8 0, .slice none 0 0] 55)) dq) osq = W at *
          go_wp2_with (first | (refine wpList_store_row rfl 55 (.tmp 2) (.tmp 47) rfl w.heap.size #[.int .u8 0, .slice none 0 0] rfl rfl 55 #[.int .u8 0, .slice none 0 0] R0 iz.out rfl (stepone _ _ _ _) ?_))
          exact bodyPost_ret (results_cell_three Try.results54 _ _ w.heap.size 55 #[.int .u8 0, .slice none 0 0] (0, 0) _ rfl (R0.setRow _) Try.underlying55 rfl iz.out) rfl (by rw [HV.out]; exact ⟨_, rfl, Own.nil _ _, NX.out.setRow _ hl⟩)
        have g5' : ¬ (3000 : Int) < (n : Int) := by omega
        rw [if_neg (by omega)] at HV0
        by_cases g6 : b.length - 3 < n
        · have HV : Hid (oneS b = ((0, []), 0, 4)) := Lib.hid (by rw [HV0, if_pos g6])
          have g6' : (b.length : Int) - 3 < (n : Int) := by omega
          clear g4 g5 g6 HV0 hnn
          generalize Sort.grow (redrawn (w.alloc (.cells #[.int .u8 0, .slice none 0 0] 55)) dq) osq = W at *
          go_wp2_with (first | (refine wpList_store_row rfl 55 (.tmp 2) (.tmp 54) rfl w.heap.size #[.int .u8 0, .slice none 0 0] rfl rfl 55 #[.int .u8 0, .slice none 0 0] R0 iz.out rfl (stepone _ _ _ _) ?_))
          exact bodyPost_ret (results_cell_three Try.results54 _ _ w.heap.size 55 #[.int .u8 0, .slice none 0 0] (0, 0) _ rfl (R0.setRow _) Try.underlying55 rfl iz.out) rfl (by rw [HV.out]; exact ⟨_, rfl, Own.nil _ _, NX.out.setRow _ hl⟩)
        · have HV : Hid (oneS b = ((1, (b.drop 3).take n), 3 + n, 0)) := Lib.hid (by rw [HV0, if_neg g6])
          have g6' : ¬ (b.length : Int) - 3 < (n : Int) := by have := HBL.out; omega
          have hbl3 := HBL.out
          have HRL := Lib.hid (HRD.out _ NX.out)
          have HAT : At (Sort.grow (redrawn (w.alloc (.cells #[.int .u8 0, .slice none 0 0] 55)) dq) osq) (some ⟨bk, o, none⟩) b := ha.nx NX.out
          have HBT := Lib.hid (between_rd HAT hbc hcm 3 (3 + n) (by omega) (by omega))
          rw [Nat.add_sub_cancel_left] at HBT
          have HCUT := Lib.hid fun W => slice_between (P := Try.prog) 23 5 Try.underlying23 Try.sizeOf5 (some ⟨bk, o, none⟩) b.length c 3 (3 + n) 3 (3 + (n : Int)) rfl (by omega) (by omega) (by omega) W
          have HLN : Hid (((b.drop 3).take n).length ≤ 140737488355328) := Lib.hid (by rw [List.length_take]; omega)
          have hw3 : wrap64 (3 + (n : Int)) = 3 + (n : Int) := by unfold wrap64; omega
          clear g4 g5 g6 HV0 hnn hbl3 HAT hbc hcm ha
          generalize (b.drop 3).take n = L at *
          generalize betweenV (some ⟨bk, o, none⟩) c 3 (3 + n) = VB at *
          generalize Sort.grow (redrawn (w.alloc (.cells #[.int .u8 0, .slice none 0 0] 55)) dq) osq = W at *
          go_wp2_with (first | (refine wpList_cut (some 60) rfl rfl 23 (.tmp 55) (some (.tmp 56)) (some (.tmp 59)) none rfl VB ?_ ?_; focus exact HCUT.out _))
          refine (copy_any _ L _ HBT.out HLN.out).mono ?_
          rintro e w1 ⟨vx, rfl, ox, nx⟩
          have R1 := R0.nx nx
          have N1 := Lib.hid (NX.out.trans nx)
          obtain ⟨A2, c2, rfl, -⟩ := ox.rd
          have ix := Lib.hid (stepsz (.int .u8 1) (.slice A2 L.length c2))
          have OY := Lib.hid ((ox.setRow_less (k := w.heap.size) #[.int .u8 1, .slice A2 L.length c2] R0.lt).mono NX.out.size)
          clear R0 nx HCUT
          go_wp2_with (first | (refine wpList_store_row rfl 55 (.tmp 2) (.tmp 62) rfl w.heap.size #[.int .u8 1, .slice A2 L.length c2] rfl rfl 55 #[.int .u8 0, .slice none 0 0] R1 ix.out rfl (stepone _ _ _ _) ?_))
          exact bodyPost_ret (results_cell_three Try.results54 _ _ w.heap.size 55 #[.int .u8 1, .slice A2 L.length c2] (0, 0) _ rfl (R1.setRow _) Try.underlying55 rfl ix.out) rfl (by rw [HV.out]; exact ⟨_, rfl, OY.out, N1.out.setRow _ hl⟩)
    · have HV0 : oneS b = if b.length - 1 < (b.getD 0 0).toNat then ((0, []), 0, 4) else ((1, (b.drop 1).take (b.getD 0 0).toNat), 1 + (b.getD 0 0).toNat, 0) := by unfold oneS; rw [if_neg g1, if_neg g2]
      have hne : ((b.getD 0 0).toNat : Int) ≠ 128 := by omega
      have hnn : (b.getD 0 0).toNat < 128 := by omega
      clear g1 g2 hcell hc256 N0
      generalize (b.getD 0 0).toNat = n at *
      have hn0 : (0 : Int) ≤ (n : Int) := by omega
      by_cases g6 : b.length - 1 < n
      · have HV : Hid (oneS b = ((0, []), 0, 4)) := Lib.hid (by rw [HV0, if_pos g6])
        have g6' : (b.length : Int) - 1 < (n : Int) := by omega
        clear g6 HV0 hbc hcm
        generalize oneS b = OB at *
        go_enter Try.func54, Try.ntmps54
        go_wp2_with (first | (refine wpList_store_row rfl 55 (.tmp 2) (.tmp 54) rfl w.heap.size #[.int .u8 0, .slice none 0 0] rfl rfl 55 #[.int .u8 0, .slice none 0 0] R0 iz.out rfl (stepone _ _ _ _) ?_))
        exact bodyPost_ret (results_cell_three Try.results54 _ _ w.heap.size 55 #[.int .u8 0, .slice none 0 0] (0, 0) _ rfl (R0.setRow _) Try.underlying55 rfl iz.out) rfl (by rw [HV.out]; exact ⟨_, rfl, Own.nil _ _, NN.out.setRow _ hl⟩)
      · have HV : Hid (oneS b = ((1, (b.drop 1).take n), 1 + n, 0)) := Lib.hid (by rw [HV0, if_neg g6])
        have g6' : ¬ (b.length : Int) - 1 < (n : Int) := by omega
        have HRL := Lib.hid (HRD.out _ NN.out)
        have HAT : At (w.alloc (.cells #[.int .u8 0, .slice none 0 0] 55)) (some ⟨bk, o, none⟩) b := ha.nx NN.out
        have HBT := Lib.hid (between_rd HAT hbc hcm 1 (1 + n) (by omega) (by omega))
        rw [Nat.add_sub_cancel_left] at HBT
        have HCUT := Lib.hid fun W => slice_between (P := Try.prog) 23 5 Try.underlying23 Try.sizeOf5 (some ⟨bk, o, none⟩) b.length c 1 (1 + n) 1 (1 + (n : Int)) rfl (by omega) (by omega) (by omega) W
        have HLN : Hid (((b.drop 1).take n).length ≤ 140737488355328) := Lib.hid (by rw [List.length_take]; omega)
        have hw3 : wrap64 (1 + (n : Int)) = 1 + (n : Int) := by unfold wrap64; omega
        clear g6 HV0 hnn HAT hbc hcm ha
        generalize (b.drop 1).take n = L at *
        generalize betweenV (some ⟨bk, o, none⟩) c 1 (1 + n) = VB at *
        go_enter Try.func54, Try.ntmps54
        go_wp2_with (first | (refine wpList_cut (some 60) rfl rfl 23 (.tmp 55) (some (.tmp 56)) (some (.tmp 59)) none rfl VB ?_ ?_; focus exact HCUT.out _))
        refine (copy_any _ L _ HBT.out HLN.out).mono ?_
        rintro e w1 ⟨vx, rfl, ox, nx⟩
        have R1 := R0.nx nx
        have N1 := Lib.hid (NN.out.trans nx)
        obtain ⟨A2, c2, rfl, -⟩ := ox.rd
        have ix := Lib.hid (stepsz (.int .u8 1) (.slice A2 L.length c2))
        have OY := Lib.hid ((ox.setRow_less (k := w.heap.size) #[.int .u8 1, .slice A2 L.length c2] R0.lt).mono NN.out.size)
        clear R0 nx HCUT
        go_wp2_with (first | (refine wpList_store_row rfl 55 (.tmp 2) (.tmp 62) rfl w.heap.size #[.int .u8 1, .slice A2 L.length c2] rfl rfl 55 #[.int .u8 0, .slice none 0 0] R1 ix.out rfl (stepone _ _ _ _) ?_))
        exact bodyPost_ret (results_cell_three Try.results54 _ _ w.heap.size 55 #[.int .u8 1, .slice A2 L.length c2] (0, 0) _ rfl (R1.setRow _) Try.underlying55 rfl ix.out) rfl (by rw [HV.out]; exact ⟨_, rfl, OY.out, N1.out.setRow _ hl⟩)
end Go.Proofs.Ytbhoflmdhlchlaa
