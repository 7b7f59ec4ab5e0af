/- CONTRACTS OF LAYER 6: Get. -/
import Derived.Test.YtniaiglfgknfiaaCoin3
namespace Go.Proofs.Ytniaiglfgknfiaa
open Go Go.RowKit
set_option linter.unusedVariables false
set_option linter.unusedSimpArgs false

structure GC where
  x : List UInt8
  n : Nat
  h : Nat
  v : Nat
  b : Bool
  lk : List UInt8
  p : Int
  e : Int
def GC.bad (e : Int) : GC := ⟨Z32, 0, 0, 0, false, [], 0, e⟩
/-- What Get answers. -/
def gcT (l : List UInt8) (at_ : Int) : GC :=
  if gpE l at_ ≠ 0 then .bad (gpE l at_)
  else if (gvT l (gpP l at_)).2.2 ≠ 0 then .bad (gvT l (gpP l at_)).2.2
  else if (gbT l (gvT l (gpP l at_)).2.1).2.2 ≠ 0 then .bad (gbT l (gvT l (gpP l at_)).2.1).2.2
  else if (gr l (gbT l (gvT l (gpP l at_)).2.1).2.1 100).2.2 ≠ 0 then .bad (gr l (gbT l (gvT l (gpP l at_)).2.1).2.1 100).2.2
  else ⟨gpX l at_, gpN l at_, gpH l at_, (gvT l (gpP l at_)).1, (gbT l (gvT l (gpP l at_)).2.1).1, (gr l (gbT l (gvT l (gpP l at_)).2.1).2.1 100).1, (gr l (gbT l (gvT l (gpP l at_)).2.1).2.1 100).2.1, 0⟩

set_option maxRecDepth 100000 in
set_option maxHeartbeats 8000000 in
theorem get_coin_any (v : Value) (l : List UInt8) (at_ : Int) (w : World) (h : Rd w v l) (hr : l.length ≤ 140737488355328) :
    Calls Try.prog 21 #[v, .int .i64 at_] w fun e w' => ∃ lk, e = .returned (.tuple #[.agg (ccel (gcT l at_).x (gcT l at_).n (gcT l at_).h (gcT l at_).v (gcT l at_).b lk), .int .i64 (gcT l at_).p, .int .i64 (gcT l at_).e]) ∧ Own w.heap.size w' lk (gcT l at_).lk ∧ Nx w w' := by
  have HP := Lib.hid (fun w h => getPoint_any v l at_ w h hr)
  have HV := Lib.hid (fun w h => getValue_any v l (gpP l at_) w h hr)
  have HB := Lib.hid (fun w h => getBase_any v l (gvT l (gpP l at_)).2.1 w h hr)
  have HW := Lib.hid (fun w h => getRow_any v l (gbT l (gvT l (gpP l at_)).2.1).2.1 100 w h hr (by decide))
  have HRD := Lib.hid (fun w' (n : Nx w w') => h.nx n)
  have HXL := Lib.hid (gpX_length l at_)
  have HZL := Lib.hid Z32_length
  obtain ⟨hz, hzs⟩ := zero_of_info info_point
  obtain ⟨hz2, hzs2⟩ := zero_of_info info_coin
  obtain ⟨A, c, rfl, -⟩ := h
  have hl : w.heap.size ≤ w.heap.size := Nat.le_refl _
  have R40 := Row.new w (ccel Z32 0 0 0 false (.slice none 0 0)) 31 _ rfl
  have N40 := Lib.hid ((Nx.refl w).alloc (.cells (ccel Z32 0 0 0 false (.slice none 0 0)) 31))
  unfold gcT
  generalize gpX l at_ = X at *
  generalize gpN l at_ = N at *
  generalize gpH l at_ = H at *
  generalize gpE l at_ = E0 at *
  generalize gpP l at_ = P0 at *
  generalize (gvT l P0).1 = V at *
  generalize (gvT l P0).2.2 = E1 at *
  generalize (gvT l P0).2.1 = P1 at *
  generalize (gbT l P1).1 = B at *
  generalize (gbT l P1).2.2 = E2 at *
  generalize (gbT l P1).2.1 = P2 at *
  generalize (gr l P2 100).1 = L at *
  generalize (gr l P2 100).2.2 = E3 at *
  generalize (gr l P2 100).2.1 = P3 at *
  have cz := Lib.hid (coinsz Z32 0 0 0 false (.slice none 0 0) HZL.out)
  have ix := Lib.hid (pointsz X N H HXL.out)
  have jx := Lib.hid (pointsame Z32 X 0 0 N H HZL.out HXL.out)
  by_cases hE0 : E0 = 0
  · subst hE0
    rw [if_neg (by simp)]
    by_cases hE1 : E1 = 0
    · subst hE1
      rw [if_neg (by simp)]
      by_cases hE2 : E2 = 0
      · subst hE2
        rw [if_neg (by simp)]
        by_cases hE3 : E3 = 0
        · subst hE3
          rw [if_neg (by simp)]
          go_enter Try.func21, Try.ntmps21
          go_wp2_with fail
          refine (HP.out _ (HRD.out _ N40.out)).mono ?_
          rintro e w1 ⟨rfl, n1⟩
          have R41 := R40.nx n1
          have N1 := Lib.hid (N40.out.trans n1)
          have hne : w.heap.size ≠ w1.heap.size := Nat.ne_of_lt R41.lt
          have hs1 := N1.out.size
          clear n1
          have RP := Row.new w1 (pcel Z32 0 0) 27 _ rfl
          have RP2 := RP.setRow (pcel X N H)
          have R4 := (R41.alloc (.cells (pcel Z32 0 0) 27)).setRow_other (k := w1.heap.size) (pcel X N H) hne
          have N2 := Lib.hid ((N1.out.alloc (.cells (pcel Z32 0 0) 27)).setRow (pcel X N H) hs1)
          clear hne hs1 R41
          go_wp2_with (first | (refine wpList_store_row rfl 27 (.tmp 7) (.tmp 16) rfl w1.heap.size (pcel X N H) rfl rfl 27 (pcel Z32 0 0) RP ix.out jx.out (pcel_one _ _ _) ?_))
          refine (HV.out _ (HRD.out _ N2.out)).mono ?_
          rintro e w2 ⟨rfl, rfl⟩
          go_wp2_with fail
          refine (HB.out _ (HRD.out _ N2.out)).mono ?_
          rintro e w2 ⟨rfl, rfl⟩
          go_wp2_with fail
          refine (HW.out _ (HRD.out _ N2.out)).mono ?_
          rintro e w2 ⟨v3, rfl, o1, n1⟩
          have R5 := R4.nx n1
          have N3 := Lib.hid (N2.out.trans n1)
          have RQ := RP2.nx n1
          have hlt := R4.lt
          have O1 := Lib.hid (o1.setRow_lt (k := w.heap.size) (ccel X N H V B v3) hlt)
          have O2 := Lib.hid (O1.out.mono (Nat.le_of_lt hlt))
          clear O1 hlt
          obtain ⟨A3, c3, rfl, -⟩ := o1.rd
          clear o1 n1
          have cx := Lib.hid (coinsz X N H V B (.slice A3 L.length c3) HXL.out)
          have dx : Hid ((ccel Z32 0 0 0 false (.slice none 0 0)).size = (ccel X N H V B (.slice A3 L.length c3)).size) := Lib.hid (by rw [ccel_size _ _ _ _ _ _ HXL.out, ccel_size _ _ _ _ _ _ HZL.out])
          have HBU := Lib.hid (built_coin X HXL.out N H V B A3 L.length c3)
          go_wp2_with (first | (refine wpList_load_row rfl 27 (.tmp 7) rfl w1.heap.size rfl 27 (pcel X N H) (0, 0) _ RQ Try.underlying27 rfl ix.out ?_) | (refine wpList_built (some 60) rfl rfl 31 _ rfl [(0, .agg (pcel X N H)), (1, .int .u64 (V : Int)), (2, .bool B), (3, .slice A3 L.length c3)] (by kernel_rfl) _ HBU.out ?_) | (refine wpList_store_row rfl 31 (.tmp 4) (.tmp 60) rfl w.heap.size (ccel X N H V B (.slice A3 L.length c3)) rfl rfl 31 (ccel Z32 0 0 0 false (.slice none 0 0)) R5 cx.out dx.out (ccel_one _ _ _ _ _ _ _ _) ?_))
          exact bodyPost_ret (results_cell_row3 Try.results21 _ _ w.heap.size 31 (ccel X N H V B (.slice A3 L.length c3)) (0, 0) _ rfl (R5.setRow _) Try.underlying31 rfl cx.out) rfl ⟨_, rfl, O2.out, N3.out.setRow _ hl⟩
        · rw [if_pos hE3]
          have dE : (E3 != 0) = true := by simp [hE3]
          clear hE3
          unfold GC.bad
          go_enter Try.func21, Try.ntmps21
          go_wp2_with fail
          refine (HP.out _ (HRD.out _ N40.out)).mono ?_
          rintro e w1 ⟨rfl, n1⟩
          have R41 := R40.nx n1
          have N1 := Lib.hid (N40.out.trans n1)
          have hne : w.heap.size ≠ w1.heap.size := Nat.ne_of_lt R41.lt
          have hs1 := N1.out.size
          clear n1
          have RP := Row.new w1 (pcel Z32 0 0) 27 _ rfl
          have RP2 := RP.setRow (pcel X N H)
          have R4 := (R41.alloc (.cells (pcel Z32 0 0) 27)).setRow_other (k := w1.heap.size) (pcel X N H) hne
          have N2 := Lib.hid ((N1.out.alloc (.cells (pcel Z32 0 0) 27)).setRow (pcel X N H) hs1)
          clear hne hs1 R41
          go_wp2_with (first | (refine wpList_store_row rfl 27 (.tmp 7) (.tmp 16) rfl w1.heap.size (pcel X N H) rfl rfl 27 (pcel Z32 0 0) RP ix.out jx.out (pcel_one _ _ _) ?_))
          refine (HV.out _ (HRD.out _ N2.out)).mono ?_
          rintro e w2 ⟨rfl, rfl⟩
          go_wp2_with fail
          refine (HB.out _ (HRD.out _ N2.out)).mono ?_
          rintro e w2 ⟨rfl, rfl⟩
          go_wp2_with fail
          refine (HW.out _ (HRD.out _ N2.out)).mono ?_
          rintro e w2 ⟨v3, rfl, o1, n1⟩
          have R5 := R4.nx n1
          have N3 := Lib.hid (N2.out.trans n1)
          clear o1 n1
          go_wp2_with (first | (refine wpList_store_row rfl 31 (.tmp 4) (.tmp 54) rfl w.heap.size (ccel Z32 0 0 0 false (.slice none 0 0)) rfl rfl 31 (ccel Z32 0 0 0 false (.slice none 0 0)) R5 cz.out rfl (ccel_one _ _ _ _ _ _ _ _) ?_))
          exact bodyPost_ret (results_cell_row3 Try.results21 _ _ w.heap.size 31 (ccel Z32 0 0 0 false (.slice none 0 0)) (0, 0) _ rfl (R5.setRow _) Try.underlying31 rfl cz.out) rfl ⟨_, rfl, Own.nil _ _, N3.out.setRow _ hl⟩
      · rw [if_pos hE2]
        have dE : (E2 != 0) = true := by simp [hE2]
        clear hE2
        unfold GC.bad
        go_enter Try.func21, Try.ntmps21
        go_wp2_with fail
        refine (HP.out _ (HRD.out _ N40.out)).mono ?_
        rintro e w1 ⟨rfl, n1⟩
        have R41 := R40.nx n1
        have N1 := Lib.hid (N40.out.trans n1)
        have hne : w.heap.size ≠ w1.heap.size := Nat.ne_of_lt R41.lt
        have hs1 := N1.out.size
        clear n1
        have RP := Row.new w1 (pcel Z32 0 0) 27 _ rfl
        have RP2 := RP.setRow (pcel X N H)
        have R4 := (R41.alloc (.cells (pcel Z32 0 0) 27)).setRow_other (k := w1.heap.size) (pcel X N H) hne
        have N2 := Lib.hid ((N1.out.alloc (.cells (pcel Z32 0 0) 27)).setRow (pcel X N H) hs1)
        clear hne hs1 R41
        go_wp2_with (first | (refine wpList_store_row rfl 27 (.tmp 7) (.tmp 16) rfl w1.heap.size (pcel X N H) rfl rfl 27 (pcel Z32 0 0) RP ix.out jx.out (pcel_one _ _ _) ?_))
        refine (HV.out _ (HRD.out _ N2.out)).mono ?_
        rintro e w2 ⟨rfl, rfl⟩
        go_wp2_with fail
        refine (HB.out _ (HRD.out _ N2.out)).mono ?_
        rintro e w2 ⟨rfl, rfl⟩
        go_wp2_with (first | (refine wpList_store_row rfl 31 (.tmp 4) (.tmp 43) rfl w.heap.size (ccel Z32 0 0 0 false (.slice none 0 0)) rfl rfl 31 (ccel Z32 0 0 0 false (.slice none 0 0)) R4 cz.out rfl (ccel_one _ _ _ _ _ _ _ _) ?_))
        exact bodyPost_ret (results_cell_row3 Try.results21 _ _ w.heap.size 31 (ccel Z32 0 0 0 false (.slice none 0 0)) (0, 0) _ rfl (R4.setRow _) Try.underlying31 rfl cz.out) rfl ⟨_, rfl, Own.nil _ _, N2.out.setRow _ hl⟩
    · rw [if_pos hE1]
      have dE : (E1 != 0) = true := by simp [hE1]
      clear hE1
      unfold GC.bad
      go_enter Try.func21, Try.ntmps21
      go_wp2_with fail
      refine (HP.out _ (HRD.out _ N40.out)).mono ?_
      rintro e w1 ⟨rfl, n1⟩
      have R41 := R40.nx n1
      have N1 := Lib.hid (N40.out.trans n1)
      have hne : w.heap.size ≠ w1.heap.size := Nat.ne_of_lt R41.lt
      have hs1 := N1.out.size
      clear n1
      have RP := Row.new w1 (pcel Z32 0 0) 27 _ rfl
      have RP2 := RP.setRow (pcel X N H)
      have R4 := (R41.alloc (.cells (pcel Z32 0 0) 27)).setRow_other (k := w1.heap.size) (pcel X N H) hne
      have N2 := Lib.hid ((N1.out.alloc (.cells (pcel Z32 0 0) 27)).setRow (pcel X N H) hs1)
      clear hne hs1 R41
      go_wp2_with (first | (refine wpList_store_row rfl 27 (.tmp 7) (.tmp 16) rfl w1.heap.size (pcel X N H) rfl rfl 27 (pcel Z32 0 0) RP ix.out jx.out (pcel_one _ _ _) ?_))
      refine (HV.out _ (HRD.out _ N2.out)).mono ?_
      rintro e w2 ⟨rfl, rfl⟩
      go_wp2_with (first | (refine wpList_store_row rfl 31 (.tmp 4) (.tmp 32) rfl w.heap.size (ccel Z32 0 0 0 false (.slice none 0 0)) rfl rfl 31 (ccel Z32 0 0 0 false (.slice none 0 0)) R4 cz.out rfl (ccel_one _ _ _ _ _ _ _ _) ?_))
      exact bodyPost_ret (results_cell_row3 Try.results21 _ _ w.heap.size 31 (ccel Z32 0 0 0 false (.slice none 0 0)) (0, 0) _ rfl (R4.setRow _) Try.underlying31 rfl cz.out) rfl ⟨_, rfl, Own.nil _ _, N2.out.setRow _ hl⟩
  · rw [if_pos hE0]
    have dE : (E0 != 0) = true := by simp [hE0]
    clear hE0
    unfold GC.bad
    go_enter Try.func21, Try.ntmps21
    go_wp2_with fail
    refine (HP.out _ (HRD.out _ N40.out)).mono ?_
    rintro e w1 ⟨rfl, n1⟩
    have R41 := R40.nx n1
    have N1 := Lib.hid (N40.out.trans n1)
    have hne : w.heap.size ≠ w1.heap.size := Nat.ne_of_lt R41.lt
    have hs1 := N1.out.size
    clear n1
    have RP := Row.new w1 (pcel Z32 0 0) 27 _ rfl
    have RP2 := RP.setRow (pcel X N H)
    have R4 := (R41.alloc (.cells (pcel Z32 0 0) 27)).setRow_other (k := w1.heap.size) (pcel X N H) hne
    have N2 := Lib.hid ((N1.out.alloc (.cells (pcel Z32 0 0) 27)).setRow (pcel X N H) hs1)
    clear hne hs1 R41
    go_wp2_with (first | (refine wpList_store_row rfl 27 (.tmp 7) (.tmp 16) rfl w1.heap.size (pcel X N H) rfl rfl 27 (pcel Z32 0 0) RP ix.out jx.out (pcel_one _ _ _) ?_) | (refine wpList_store_row rfl 31 (.tmp 4) (.tmp 21) rfl w.heap.size (ccel Z32 0 0 0 false (.slice none 0 0)) rfl rfl 31 (ccel Z32 0 0 0 false (.slice none 0 0)) R4 cz.out rfl (ccel_one _ _ _ _ _ _ _ _) ?_))
    exact bodyPost_ret (results_cell_row3 Try.results21 _ _ w.heap.size 31 (ccel Z32 0 0 0 false (.slice none 0 0)) (0, 0) _ rfl (R4.setRow _) Try.underlying31 rfl cz.out) rfl ⟨_, rfl, Own.nil _ _, N2.out.setRow _ hl⟩
end Go.Proofs.Ytniaiglfgknfiaa