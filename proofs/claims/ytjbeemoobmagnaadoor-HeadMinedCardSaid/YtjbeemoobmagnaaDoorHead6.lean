/- LAYER 8: Read of the program. -/
import Derived.Test.YtjbeemoobmagnaaDoorHead5
namespace Go.Proofs.YtjbeemoobmagnaaDoor
open Go Go.RowKit
set_option linter.unusedVariables false
set_option linter.unusedSimpArgs false
set_option linter.unusedVariables false
set_option linter.unusedSimpArgs false

theorem hgT_p (l : List UInt8) (at_ : Int) : (hgT l at_).p.length = 32 := by
  unfold hgT
  split
  · rename_i h
    obtain ⟨h1, -⟩ := cut76 h
    show ((cutL l at_ 76).take 32).length = 32
    rw [List.length_take]; omega
  · exact Z32_length
theorem hgT_r (l : List UInt8) (at_ : Int) : (hgT l at_).r.length = 32 := by
  unfold hgT
  split
  · rename_i h
    obtain ⟨h1, -⟩ := cut76 h
    show (((cutL l at_ 76).drop 32).take 32).length = 32
    rw [List.length_take, List.length_drop]; omega
  · exact Z32_length
theorem hgT_at (l : List UInt8) (at_ : Int) : (hgT l at_).e = 0 → (hgT l at_).at_ ≤ l.length := by
  unfold hgT
  split
  · rename_i h
    obtain ⟨h1, h2, h3⟩ := cut76 h
    intro _
    exact h3
  · rename_i h
    intro h2
    exact absurd h2 h
/-- What Read answers. -/
def hrT (l : List UInt8) : HD := if (hgT l 0).e ≠ 0 then .bad (hgT l 0).e else if (hgT l 0).at_ ≠ (l.length : Int) then .bad 5 else hgT l 0
set_option maxRecDepth 100000 in
set_option maxHeartbeats 8000000 in
theorem hread_any (v : Value) (l : List UInt8) (w : World) (h : Rd w v l) (hr : l.length ≤ 140737488355328) :
    Calls Tryd.prog 27 #[v] w fun e w' => e = .returned (.tuple #[.agg (hdc (hrT l).p (hrT l).r (hrT l).t (hrT l).b (hrT l).n), .int .i64 (hrT l).e]) ∧ Nx w w' := by
  have HP := Lib.hid (fun w h => hget_any v l 0 w h hr)
  have HRD := Lib.hid (fun w' (n : Nx w w') => h.nx n)
  have HZL := Lib.hid Z32_length
  have HXL := Lib.hid (hgT_p l 0)
  have HYL := Lib.hid (hgT_r l 0)
  have HIN := Lib.hid (hgT_at l 0)
  obtain ⟨hz2, hzs2⟩ := zero_of_info info_head
  obtain ⟨A, c, rfl, -⟩ := h
  have hl : w.heap.size ≤ w.heap.size := Nat.le_refl _
  have R40 := Row.new w (hdc Z32 Z32 0 0 0) 32 _ rfl
  have N40 := Lib.hid ((Nx.refl w).alloc (.cells (hdc Z32 Z32 0 0 0) 32))
  have HLL := Lib.hid (show (l.length : Int) ≤ 9223372036854775807 by omega)
  unfold hrT
  generalize hgT l 0 = G at *
  obtain ⟨X, Y, T, B, N, P0, E0⟩ := G
  dsimp only at *
  have cz := Lib.hid (headsz Z32 Z32 0 0 0 HZL.out HZL.out)
  by_cases hE : E0 = 0
  · subst hE
    rw [if_neg (by simp)]
    by_cases hP : P0 = (l.length : Int)
    · rw [if_neg (by simpa using hP)]
      subst hP

      go_enter Tryd.func27, Tryd.ntmps27
      go_wp2_with fail
      refine (HP.out _ (HRD.out _ N40.out)).mono ?_
      rintro e w1 ⟨rfl, n1⟩
      have R41 := R40.nx n1
      have N1 := Lib.hid (N40.out.trans n1)
      have RP := Row.new w1 (hdc Z32 Z32 0 0 0) 32 _ rfl
      have RP2 := RP.setRow (hdc X Y T B N)
      have NN : Nx w1 ((w1.alloc (.cells (hdc Z32 Z32 0 0 0) 32)).setRow w1.heap.size (hdc X Y T B N)) := ((Nx.refl w1).alloc _).setRow _ (Nat.le_refl _)
      have R4 := R41.nx NN
      have N2 := Lib.hid (N1.out.trans NN)
      have cx := Lib.hid (headsz X Y T B N HXL.out HYL.out)
      have dx := Lib.hid (headsame Z32 Z32 X Y 0 0 0 T B N HZL.out HZL.out HXL.out HYL.out)
      clear n1 NN R41
      go_wp2_with (first | (refine wpList_store_row rfl 32 (.tmp 4) (.tmp 10) rfl w1.heap.size (hdc X Y T B N) rfl rfl 32 (hdc Z32 Z32 0 0 0) RP cx.out dx.out (hd_one _ _ _ _ _) ?_) | (refine wpList_load_row rfl 32 (.tmp 4) rfl w1.heap.size rfl 32 (hdc X Y T B N) (0, 0) _ RP2 Tryd.underlying32 rfl cx.out ?_) | (refine wpList_store_row rfl 32 (.tmp 2) (.tmp 22) rfl w.heap.size (hdc X Y T B N) rfl rfl 32 (hdc Z32 Z32 0 0 0) R4 cx.out dx.out (hd_one _ _ _ _ _) ?_))
      exact bodyPost_ret (results_cell_two Tryd.results27 _ _ w.heap.size 32 (hdc X Y T B N) (0, 0) _ rfl (R4.setRow _) Tryd.underlying32 rfl cx.out) rfl ⟨rfl, N2.out.setRow _ hl⟩
    · rw [if_pos hP]
      unfold HD.bad
      have dP : (P0 != (l.length : Int)) = true := by simp [hP]
      clear hP
      go_enter Tryd.func27, Tryd.ntmps27
      go_wp2_with fail
      refine (HP.out _ (HRD.out _ N40.out)).mono ?_
      rintro e w1 ⟨rfl, n1⟩
      have R41 := R40.nx n1
      have N1 := Lib.hid (N40.out.trans n1)
      have RP := Row.new w1 (hdc Z32 Z32 0 0 0) 32 _ rfl
      have RP2 := RP.setRow (hdc X Y T B N)
      have NN : Nx w1 ((w1.alloc (.cells (hdc Z32 Z32 0 0 0) 32)).setRow w1.heap.size (hdc X Y T B N)) := ((Nx.refl w1).alloc _).setRow _ (Nat.le_refl _)
      have R4 := R41.nx NN
      have N2 := Lib.hid (N1.out.trans NN)
      have cx := Lib.hid (headsz X Y T B N HXL.out HYL.out)
      have dx := Lib.hid (headsame Z32 Z32 X Y 0 0 0 T B N HZL.out HZL.out HXL.out HYL.out)
      clear n1 NN R41
      go_wp2_with (first | (refine wpList_store_row rfl 32 (.tmp 4) (.tmp 10) rfl w1.heap.size (hdc X Y T B N) rfl rfl 32 (hdc Z32 Z32 0 0 0) RP cx.out dx.out (hd_one _ _ _ _ _) ?_) | (refine wpList_val (some 21) rfl rfl (.agg (hdc Z32 Z32 0 0 0)) ?_ ?_; (focus kernel_rfl)) | (refine wpList_store_row rfl 32 (.tmp 2) (.tmp 21) rfl w.heap.size (hdc Z32 Z32 0 0 0) rfl rfl 32 (hdc Z32 Z32 0 0 0) R4 cz.out rfl (hd_one _ _ _ _ _) ?_))
      exact bodyPost_ret (results_cell_two Tryd.results27 _ _ w.heap.size 32 (hdc Z32 Z32 0 0 0) (0, 0) _ rfl (R4.setRow _) Tryd.underlying32 rfl cz.out) rfl ⟨rfl, N2.out.setRow _ hl⟩
  · rw [if_pos hE]
    unfold HD.bad
    have dE : (E0 != 0) = true := by simp [hE]
    clear hE
    go_enter Tryd.func27, Tryd.ntmps27
    go_wp2_with fail
    refine (HP.out _ (HRD.out _ N40.out)).mono ?_
    rintro e w1 ⟨rfl, n1⟩
    have R41 := R40.nx n1
    have N1 := Lib.hid (N40.out.trans n1)
    have RP := Row.new w1 (hdc Z32 Z32 0 0 0) 32 _ rfl
    have RP2 := RP.setRow (hdc X Y T B N)
    have NN : Nx w1 ((w1.alloc (.cells (hdc Z32 Z32 0 0 0) 32)).setRow w1.heap.size (hdc X Y T B N)) := ((Nx.refl w1).alloc _).setRow _ (Nat.le_refl _)
    have R4 := R41.nx NN
    have N2 := Lib.hid (N1.out.trans NN)
    have cx := Lib.hid (headsz X Y T B N HXL.out HYL.out)
    have dx := Lib.hid (headsame Z32 Z32 X Y 0 0 0 T B N HZL.out HZL.out HXL.out HYL.out)
    clear n1 NN R41
    go_wp2_with (first | (refine wpList_store_row rfl 32 (.tmp 4) (.tmp 10) rfl w1.heap.size (hdc X Y T B N) rfl rfl 32 (hdc Z32 Z32 0 0 0) RP cx.out dx.out (hd_one _ _ _ _ _) ?_) | (refine wpList_val (some 15) rfl rfl (.agg (hdc Z32 Z32 0 0 0)) ?_ ?_; (focus kernel_rfl)) | (refine wpList_store_row rfl 32 (.tmp 2) (.tmp 15) rfl w.heap.size (hdc Z32 Z32 0 0 0) rfl rfl 32 (hdc Z32 Z32 0 0 0) R4 cz.out rfl (hd_one _ _ _ _ _) ?_))
    exact bodyPost_ret (results_cell_two Tryd.results27 _ _ w.heap.size 32 (hdc Z32 Z32 0 0 0) (0, 0) _ rfl (R4.setRow _) Tryd.underlying32 rfl cz.out) rfl ⟨rfl, N2.out.setRow _ hl⟩
end Go.Proofs.YtjbeemoobmagnaaDoor
