/- THE DOCUMENT'S ANSWERS OF LAYER 6: Get. -/
import Derived.Test.YtniaiglfgknfiaaCoinR2
namespace Go.Proofs.Ytniaiglfgknfiaa
open Go Go.RowKit
set_option linter.unusedVariables false
set_option linter.unusedSimpArgs false

theorem getE_ok1 {l : List UInt8} {at_ : Int} (h : getE l.length at_ 1 = 0) : 0 ≤ at_ ∧ at_ + 1 ≤ l.length := by
  obtain ⟨h1, h2, -⟩ := getE_ok h
  exact ⟨h1, h2⟩
set_option maxRecDepth 100000 in
set_option maxHeartbeats 16000000 in
theorem rget_coin_any (v : Value) (l : List UInt8) (at_ : Int) (w : World) (h : Rd w v l) (hr : l.length ≤ 140737488355328) :
    Calls Try.prog 22 #[v, .int .i64 at_] w fun e w' => ∃ lk, e = .returned (.tuple #[.agg (ccel (gcT l at_).x (gcT l at_).n (gcT l at_).h (gcT l at_).v (gcT l at_).b lk), .int .i64 (gcT l at_).p, .int .i64 (gcT l at_).e]) ∧ Own w.heap.size w' lk (gcT l at_).lk ∧ Nx w w' := by
  have HP := Lib.hid (fun w h => rgetPoint_any v l at_ w h hr)
  have HV := Lib.hid (fun w h => refGet_any v l (gpP l at_) 8 w h hr)
  have HB := Lib.hid (fun w h => refGet_any v l (gpP l at_ + 8) 1 w h hr)
  have HW := Lib.hid (fun w h => refGetRow_any v l (gpP l at_ + 9) 100 w h hr (by decide))
  have HRD := Lib.hid (fun w' (n : Nx w w') => h.nx n)
  have HXL := Lib.hid (gpX_length l at_)
  have HZL := Lib.hid Z32_length
  have HOK := Lib.hid (fun h => getE_ok (l := l) (at_ := gpP l at_) (s := 8) h)
  have HOK1 := Lib.hid (fun h => getE_ok1 (l := l) (at_ := gpP l at_ + 8) h)
  have HGV := Lib.hid (gv_cases l (gpP l at_))
  have HGB := Lib.hid (gb_cases l (gpP l at_ + 8))
  have H9 : Hid (gpP l at_ + 8 + 1 = gpP l at_ + 9) := Lib.hid (by omega)
  have HLL := Lib.hid hr
  obtain ⟨hz, hzs⟩ := zero_of_info info_point
  obtain ⟨hz2, hzs2⟩ := zero_of_info info_coin
  obtain ⟨A, c, rfl, -⟩ := h
  have hl : w.heap.size ≤ w.heap.size := Nat.le_refl _
  have R40 := Row.new w (ccel Z32 0 0 0 false (.slice none 0 0)) 31 _ rfl
  have N40 := Lib.hid ((Nx.refl w).alloc (.cells (ccel Z32 0 0 0 false (.slice none 0 0)) 31))
  unfold gcT
  generalize gpX l at_ = X at *
  generalize gpN l at_ = N at *
  generalize gpH l at_ = H at *
  generalize gpE l at_ = E0 at *
  generalize gpP l at_ = P0 at *
  have cz := Lib.hid (coinsz Z32 0 0 0 false (.slice none 0 0) HZL.out)
  have ix := Lib.hid (pointsz X N H HXL.out)
  have jx := Lib.hid (pointsame Z32 X 0 0 N H HZL.out HXL.out)
  clear hr
  by_cases hE0 : E0 = 0
  · subst hE0
    rw [if_neg (by simp)]
    rcases HGV.out with ⟨c1, c2⟩ | ⟨c1, ⟨c2, c3⟩ | ⟨c2, c3⟩⟩
    · rw [c2, if_pos c1]
      unfold GC.bad
      generalize getE l.length P0 8 = E1 at *
      generalize getN l P0 8 = V at *
      have dE : (E1 != 0) = true := by simp [c1]
      clear c1 c2 HGV HGB
      go_enter Try.func22, Try.ntmps22
      go_wp2_with fail
      refine (HP.out _ (HRD.out _ N40.out)).mono ?_
      rintro e w1 ⟨rfl, n1⟩
      have R41 := R40.nx n1
      have N1 := Lib.hid (N40.out.trans n1)
      have hne : w.heap.size ≠ w1.heap.size := Nat.ne_of_lt R41.lt
      have hs1 := N1.out.size
      clear n1
      have RP := Row.new w1 (pcel Z32 0 0) 27 _ rfl
      have RP2 := RP.setRow (pcel X N H)
      have R4 := (R41.alloc (.cells (pcel Z32 0 0) 27)).setRow_other (k := w1.heap.size) (pcel X N H) hne
      have N2 := Lib.hid ((N1.out.alloc (.cells (pcel Z32 0 0) 27)).setRow (pcel X N H) hs1)
      clear hne hs1 R41
      go_wp2_with (first | (refine wpList_store_row rfl 27 (.tmp 7) (.tmp 21) rfl w1.heap.size (pcel X N H) rfl rfl 27 (pcel Z32 0 0) RP ix.out jx.out (pcel_one _ _ _) ?_))
      refine (HV.out _ (HRD.out _ N2.out)).mono ?_
      rintro e w2 ⟨rfl, n2⟩
      have R5 := R4.nx n2
      have RQ5 := RP2.nx n2
      have N3 := Lib.hid (N2.out.trans n2)
      clear n2 R4 RP RP2
      go_wp2_with (first | (refine wpList_store_row rfl 31 (.tmp 4) (.tmp 36) rfl w.heap.size (ccel Z32 0 0 0 false (.slice none 0 0)) rfl rfl 31 (ccel Z32 0 0 0 false (.slice none 0 0)) R5 cz.out rfl (ccel_one _ _ _ _ _ _ _ _) ?_))
      exact bodyPost_ret (results_cell_row3 Try.results22 _ _ w.heap.size 31 (ccel Z32 0 0 0 false (.slice none 0 0)) (0, 0) _ rfl (R5.setRow _) Try.underlying31 rfl cz.out) rfl ⟨_, rfl, Own.nil _ _, N3.out.setRow _ hl⟩
    · rw [c3, if_pos (by decide)]
      unfold GC.bad
      rw [c1] at HV
      generalize getN l P0 8 = V at *
      have d1 : decide ((1125899906842624 : Int) < (V : Int)) = true := decide_eq_true (by omega)
      have d2 : decide (1125899906842624 < V) = true := decide_eq_true c2
      clear c1 c2 c3 HGV HGB
      go_enter Try.func22, Try.ntmps22
      go_wp2_with fail
      refine (HP.out _ (HRD.out _ N40.out)).mono ?_
      rintro e w1 ⟨rfl, n1⟩
      have R41 := R40.nx n1
      have N1 := Lib.hid (N40.out.trans n1)
      have hne : w.heap.size ≠ w1.heap.size := Nat.ne_of_lt R41.lt
      have hs1 := N1.out.size
      clear n1
      have RP := Row.new w1 (pcel Z32 0 0) 27 _ rfl
      have RP2 := RP.setRow (pcel X N H)
      have R4 := (R41.alloc (.cells (pcel Z32 0 0) 27)).setRow_other (k := w1.heap.size) (pcel X N H) hne
      have N2 := Lib.hid ((N1.out.alloc (.cells (pcel Z32 0 0) 27)).setRow (pcel X N H) hs1)
      clear hne hs1 R41
      go_wp2_with (first | (refine wpList_store_row rfl 27 (.tmp 7) (.tmp 21) rfl w1.heap.size (pcel X N H) rfl rfl 27 (pcel Z32 0 0) RP ix.out jx.out (pcel_one _ _ _) ?_))
      refine (HV.out _ (HRD.out _ N2.out)).mono ?_
      rintro e w2 ⟨rfl, n2⟩
      have R5 := R4.nx n2
      have RQ5 := RP2.nx n2
      have N3 := Lib.hid (N2.out.trans n2)
      clear n2 R4 RP RP2
      go_wp2_with (first | (refine wpList_store_row rfl 31 (.tmp 4) (.tmp 40) rfl w.heap.size (ccel Z32 0 0 0 false (.slice none 0 0)) rfl rfl 31 (ccel Z32 0 0 0 false (.slice none 0 0)) R5 cz.out rfl (ccel_one _ _ _ _ _ _ _ _) ?_))
      exact bodyPost_ret (results_cell_row3 Try.results22 _ _ w.heap.size 31 (ccel Z32 0 0 0 false (.slice none 0 0)) (0, 0) _ rfl (R5.setRow _) Try.underlying31 rfl cz.out) rfl ⟨_, rfl, Own.nil _ _, N3.out.setRow _ hl⟩
    · rw [c3, if_neg (by simp)]
      dsimp only
      obtain ⟨p1, p2, -⟩ := HOK.out c1
      have hll := HLL.out
      have p3 : P0 + 8 ≤ 140737488355328 := by omega
      rw [c1] at HV
      generalize getN l P0 8 = V at *
      have d1 : decide ((1125899906842624 : Int) < (V : Int)) = false := decide_eq_false (by omega)
      have d2 : decide (1125899906842624 < V) = false := decide_eq_false c2
      clear c1 c2 c3 HGV p2 hll
      rcases HGB.out with ⟨c1, c2⟩ | ⟨c1, ⟨c2, c3⟩ | ⟨c2, c3⟩⟩
      · rw [c2, if_pos c1]
        unfold GC.bad
        generalize getE l.length (P0 + 8) 1 = E2 at *
        generalize getN l (P0 + 8) 1 = M at *
        have dE : (E2 != 0) = true := by simp [c1]
        clear c1 c2 HGB
        go_enter Try.func22, Try.ntmps22
        go_wp2_with fail
        refine (HP.out _ (HRD.out _ N40.out)).mono ?_
        rintro e w1 ⟨rfl, n1⟩
        have R41 := R40.nx n1
        have N1 := Lib.hid (N40.out.trans n1)
        have hne : w.heap.size ≠ w1.heap.size := Nat.ne_of_lt R41.lt
        have hs1 := N1.out.size
        clear n1
        have RP := Row.new w1 (pcel Z32 0 0) 27 _ rfl
        have RP2 := RP.setRow (pcel X N H)
        have R4 := (R41.alloc (.cells (pcel Z32 0 0) 27)).setRow_other (k := w1.heap.size) (pcel X N H) hne
        have N2 := Lib.hid ((N1.out.alloc (.cells (pcel Z32 0 0) 27)).setRow (pcel X N H) hs1)
        clear hne hs1 R41
        go_wp2_with (first | (refine wpList_store_row rfl 27 (.tmp 7) (.tmp 21) rfl w1.heap.size (pcel X N H) rfl rfl 27 (pcel Z32 0 0) RP ix.out jx.out (pcel_one _ _ _) ?_))
        refine (HV.out _ (HRD.out _ N2.out)).mono ?_
        rintro e w2 ⟨rfl, n2⟩
        have R5 := R4.nx n2
        have RQ5 := RP2.nx n2
        have N3 := Lib.hid (N2.out.trans n2)
        clear n2 R4 RP RP2
        go_wp2_with fail
        refine (HB.out _ (HRD.out _ N3.out)).mono ?_
        rintro e w3 ⟨rfl, n3⟩
        have R6 := R5.nx n3
        have RQ6 := RQ5.nx n3
        have N4 := Lib.hid (N3.out.trans n3)
        clear n3 R5 RQ5
        go_wp2_with (first | (refine wpList_store_row rfl 31 (.tmp 4) (.tmp 50) rfl w.heap.size (ccel Z32 0 0 0 false (.slice none 0 0)) rfl rfl 31 (ccel Z32 0 0 0 false (.slice none 0 0)) R6 cz.out rfl (ccel_one _ _ _ _ _ _ _ _) ?_))
        exact bodyPost_ret (results_cell_row3 Try.results22 _ _ w.heap.size 31 (ccel Z32 0 0 0 false (.slice none 0 0)) (0, 0) _ rfl (R6.setRow _) Try.underlying31 rfl cz.out) rfl ⟨_, rfl, Own.nil _ _, N4.out.setRow _ hl⟩
      · rw [c3, if_pos (by decide)]
        unfold GC.bad
        rw [c1] at HB
        generalize getN l (P0 + 8) 1 = M at *
        have d3 : decide ((1 : Int) < (M : Int)) = true := decide_eq_true (by omega)
        have d4 : decide (1 < M) = true := decide_eq_true c2
        clear c1 c2 c3 HGB
        go_enter Try.func22, Try.ntmps22
        go_wp2_with fail
        refine (HP.out _ (HRD.out _ N40.out)).mono ?_
        rintro e w1 ⟨rfl, n1⟩
        have R41 := R40.nx n1
        have N1 := Lib.hid (N40.out.trans n1)
        have hne : w.heap.size ≠ w1.heap.size := Nat.ne_of_lt R41.lt
        have hs1 := N1.out.size
        clear n1
        have RP := Row.new w1 (pcel Z32 0 0) 27 _ rfl
        have RP2 := RP.setRow (pcel X N H)
        have R4 := (R41.alloc (.cells (pcel Z32 0 0) 27)).setRow_other (k := w1.heap.size) (pcel X N H) hne
        have N2 := Lib.hid ((N1.out.alloc (.cells (pcel Z32 0 0) 27)).setRow (pcel X N H) hs1)
        clear hne hs1 R41
        go_wp2_with (first | (refine wpList_store_row rfl 27 (.tmp 7) (.tmp 21) rfl w1.heap.size (pcel X N H) rfl rfl 27 (pcel Z32 0 0) RP ix.out jx.out (pcel_one _ _ _) ?_))
        refine (HV.out _ (HRD.out _ N2.out)).mono ?_
        rintro e w2 ⟨rfl, n2⟩
        have R5 := R4.nx n2
        have RQ5 := RP2.nx n2
        have N3 := Lib.hid (N2.out.trans n2)
        clear n2 R4 RP RP2
        go_wp2_with fail
        refine (HB.out _ (HRD.out _ N3.out)).mono ?_
        rintro e w3 ⟨rfl, n3⟩
        have R6 := R5.nx n3
        have RQ6 := RQ5.nx n3
        have N4 := Lib.hid (N3.out.trans n3)
        clear n3 R5 RQ5
        go_wp2_with (first | (refine wpList_store_row rfl 31 (.tmp 4) (.tmp 54) rfl w.heap.size (ccel Z32 0 0 0 false (.slice none 0 0)) rfl rfl 31 (ccel Z32 0 0 0 false (.slice none 0 0)) R6 cz.out rfl (ccel_one _ _ _ _ _ _ _ _) ?_))
        exact bodyPost_ret (results_cell_row3 Try.results22 _ _ w.heap.size 31 (ccel Z32 0 0 0 false (.slice none 0 0)) (0, 0) _ rfl (R6.setRow _) Try.underlying31 rfl cz.out) rfl ⟨_, rfl, Own.nil _ _, N4.out.setRow _ hl⟩
      · rw [c3, if_neg (by simp)]
        dsimp only
        rw [H9.out]
        have p4 : P0 + 9 ≤ 140737488355337 := by omega
        rw [c1] at HB
        generalize getN l (P0 + 8) 1 = M at *
        have HNE : Hid (((M : Int) == 1) = (M == 1)) := Lib.hid (by rw [Bool.eq_iff_iff, beq_iff_eq, beq_iff_eq]; omega)
        have d3 : decide ((1 : Int) < (M : Int)) = false := decide_eq_false (by omega)
        have d4 : decide (1 < M) = false := decide_eq_false c2
        clear c1 c2 c3 HGB
        generalize (gr l (P0 + 9) 100).1 = L at *
        generalize (gr l (P0 + 9) 100).2.1 = P3 at *
        generalize (gr l (P0 + 9) 100).2.2 = E3 at *
        by_cases hE3 : E3 = 0
        · subst hE3
          rw [if_neg (by simp)]
          dsimp only
          go_enter Try.func22, Try.ntmps22
          go_wp2_with fail
          refine (HP.out _ (HRD.out _ N40.out)).mono ?_
          rintro e w1 ⟨rfl, n1⟩
          have R41 := R40.nx n1
          have N1 := Lib.hid (N40.out.trans n1)
          have hne : w.heap.size ≠ w1.heap.size := Nat.ne_of_lt R41.lt
          have hs1 := N1.out.size
          clear n1
          have RP := Row.new w1 (pcel Z32 0 0) 27 _ rfl
          have RP2 := RP.setRow (pcel X N H)
          have R4 := (R41.alloc (.cells (pcel Z32 0 0) 27)).setRow_other (k := w1.heap.size) (pcel X N H) hne
          have N2 := Lib.hid ((N1.out.alloc (.cells (pcel Z32 0 0) 27)).setRow (pcel X N H) hs1)
          clear hne hs1 R41
          go_wp2_with (first | (refine wpList_store_row rfl 27 (.tmp 7) (.tmp 21) rfl w1.heap.size (pcel X N H) rfl rfl 27 (pcel Z32 0 0) RP ix.out jx.out (pcel_one _ _ _) ?_))
          refine (HV.out _ (HRD.out _ N2.out)).mono ?_
          rintro e w2 ⟨rfl, n2⟩
          have R5 := R4.nx n2
          have RQ5 := RP2.nx n2
          have N3 := Lib.hid (N2.out.trans n2)
          clear n2 R4 RP RP2
          go_wp2_with fail
          refine (HB.out _ (HRD.out _ N3.out)).mono ?_
          rintro e w3 ⟨rfl, n3⟩
          have R6 := R5.nx n3
          have RQ6 := RQ5.nx n3
          have N4 := Lib.hid (N3.out.trans n3)
          clear n3 R5 RQ5
          go_wp2_with fail
          refine (HW.out _ (HRD.out _ N4.out)).mono ?_
          rintro e w4 ⟨v4, rfl, o1, n4⟩
          have R7 := R6.nx n4
          have RQ7 := RQ6.nx n4
          have N5 := Lib.hid (N4.out.trans n4)
          have hlt := R6.lt
          have O2 := Lib.hid ((o1.setRow_lt (k := w.heap.size) (ccel X N H V (M == 1) v4) hlt).mono (Nat.le_of_lt hlt))
          obtain ⟨A3, c3, rfl, -⟩ := o1.rd
          clear o1 n4 hlt R6 RQ6
          have cx := Lib.hid (coinsz X N H V (M == 1) (.slice A3 L.length c3) HXL.out)
          have dx : Hid ((ccel Z32 0 0 0 false (.slice none 0 0)).size = (ccel X N H V (M == 1) (.slice A3 L.length c3)).size) := Lib.hid (by rw [ccel_size _ _ _ _ _ _ HXL.out, ccel_size _ _ _ _ _ _ HZL.out])
          have HBU := Lib.hid (built_coin X HXL.out N H V (M == 1) A3 L.length c3)
          have hne1 := HNE.out
          go_wp2_with (first | (refine wpList_load_row rfl 27 (.tmp 7) rfl w1.heap.size rfl 27 (pcel X N H) (0, 0) _ RQ7 Try.underlying27 rfl ix.out ?_) | (refine wpList_built (some 72) rfl rfl 31 _ rfl [(0, .agg (pcel X N H)), (1, .int .u64 (V : Int)), (2, .bool (M == 1)), (3, .slice A3 L.length c3)] (by kernel_rfl) _ HBU.out ?_) | (refine wpList_store_row rfl 31 (.tmp 4) (.tmp 72) rfl w.heap.size (ccel X N H V (M == 1) (.slice A3 L.length c3)) rfl rfl 31 (ccel Z32 0 0 0 false (.slice none 0 0)) R7 cx.out dx.out (ccel_one _ _ _ _ _ _ _ _) ?_))
          exact bodyPost_ret (results_cell_row3 Try.results22 _ _ w.heap.size 31 (ccel X N H V (M == 1) (.slice A3 L.length c3)) (0, 0) _ rfl (R7.setRow _) Try.underlying31 rfl cx.out) rfl ⟨_, rfl, O2.out, N5.out.setRow _ hl⟩
        · rw [if_pos hE3]
          unfold GC.bad
          have dE : (E3 != 0) = true := by simp [hE3]
          clear hE3
          go_enter Try.func22, Try.ntmps22
          go_wp2_with fail
          refine (HP.out _ (HRD.out _ N40.out)).mono ?_
          rintro e w1 ⟨rfl, n1⟩
          have R41 := R40.nx n1
          have N1 := Lib.hid (N40.out.trans n1)
          have hne : w.heap.size ≠ w1.heap.size := Nat.ne_of_lt R41.lt
          have hs1 := N1.out.size
          clear n1
          have RP := Row.new w1 (pcel Z32 0 0) 27 _ rfl
          have RP2 := RP.setRow (pcel X N H)
          have R4 := (R41.alloc (.cells (pcel Z32 0 0) 27)).setRow_other (k := w1.heap.size) (pcel X N H) hne
          have N2 := Lib.hid ((N1.out.alloc (.cells (pcel Z32 0 0) 27)).setRow (pcel X N H) hs1)
          clear hne hs1 R41
          go_wp2_with (first | (refine wpList_store_row rfl 27 (.tmp 7) (.tmp 21) rfl w1.heap.size (pcel X N H) rfl rfl 27 (pcel Z32 0 0) RP ix.out jx.out (pcel_one _ _ _) ?_))
          refine (HV.out _ (HRD.out _ N2.out)).mono ?_
          rintro e w2 ⟨rfl, n2⟩
          have R5 := R4.nx n2
          have RQ5 := RP2.nx n2
          have N3 := Lib.hid (N2.out.trans n2)
          clear n2 R4 RP RP2
          go_wp2_with fail
          refine (HB.out _ (HRD.out _ N3.out)).mono ?_
          rintro e w3 ⟨rfl, n3⟩
          have R6 := R5.nx n3
          have RQ6 := RQ5.nx n3
          have N4 := Lib.hid (N3.out.trans n3)
          clear n3 R5 RQ5
          go_wp2_with fail
          refine (HW.out _ (HRD.out _ N4.out)).mono ?_
          rintro e w4 ⟨v4, rfl, o1, n4⟩
          have R7 := R6.nx n4
          have RQ7 := RQ6.nx n4
          have N5 := Lib.hid (N4.out.trans n4)
          have hlt := R6.lt
          clear o1 n4 hlt R6 RQ6
          go_wp2_with (first | (refine wpList_store_row rfl 31 (.tmp 4) (.tmp 65) rfl w.heap.size (ccel Z32 0 0 0 false (.slice none 0 0)) rfl rfl 31 (ccel Z32 0 0 0 false (.slice none 0 0)) R7 cz.out rfl (ccel_one _ _ _ _ _ _ _ _) ?_))
          exact bodyPost_ret (results_cell_row3 Try.results22 _ _ w.heap.size 31 (ccel Z32 0 0 0 false (.slice none 0 0)) (0, 0) _ rfl (R7.setRow _) Try.underlying31 rfl cz.out) rfl ⟨_, rfl, Own.nil _ _, N5.out.setRow _ hl⟩
  · rw [if_pos hE0]
    unfold GC.bad
    have dE : (E0 != 0) = true := by simp [hE0]
    clear hE0
    go_enter Try.func22, Try.ntmps22
    go_wp2_with fail
    refine (HP.out _ (HRD.out _ N40.out)).mono ?_
    rintro e w1 ⟨rfl, n1⟩
    have R41 := R40.nx n1
    have N1 := Lib.hid (N40.out.trans n1)
    have hne : w.heap.size ≠ w1.heap.size := Nat.ne_of_lt R41.lt
    have hs1 := N1.out.size
    clear n1
    have RP := Row.new w1 (pcel Z32 0 0) 27 _ rfl
    have RP2 := RP.setRow (pcel X N H)
    have R4 := (R41.alloc (.cells (pcel Z32 0 0) 27)).setRow_other (k := w1.heap.size) (pcel X N H) hne
    have N2 := Lib.hid ((N1.out.alloc (.cells (pcel Z32 0 0) 27)).setRow (pcel X N H) hs1)
    clear hne hs1 R41
    go_wp2_with (first | (refine wpList_store_row rfl 27 (.tmp 7) (.tmp 21) rfl w1.heap.size (pcel X N H) rfl rfl 27 (pcel Z32 0 0) RP ix.out jx.out (pcel_one _ _ _) ?_) | (refine wpList_store_row rfl 31 (.tmp 4) (.tmp 26) rfl w.heap.size (ccel Z32 0 0 0 false (.slice none 0 0)) rfl rfl 31 (ccel Z32 0 0 0 false (.slice none 0 0)) R4 cz.out rfl (ccel_one _ _ _ _ _ _ _ _) ?_))
    exact bodyPost_ret (results_cell_row3 Try.results22 _ _ w.heap.size 31 (ccel Z32 0 0 0 false (.slice none 0 0)) (0, 0) _ rfl (R4.setRow _) Try.underlying31 rfl cz.out) rfl ⟨_, rfl, Own.nil _ _, N2.out.setRow _ hl⟩
end Go.Proofs.Ytniaiglfgknfiaa