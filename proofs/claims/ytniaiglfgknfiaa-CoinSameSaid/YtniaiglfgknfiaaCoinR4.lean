/- THE DOCUMENT'S ANSWERS OF LAYER 6: Read. -/
import Derived.Test.YtniaiglfgknfiaaCoinR3
namespace Go.Proofs.Ytniaiglfgknfiaa
open Go Go.RowKit
set_option linter.unusedVariables false
set_option linter.unusedSimpArgs false

theorem gr_le (l : List UInt8) (at_ most : Int) (h : (gr l at_ most).2.2 = 0) : (gr l at_ most).2.1 ≤ l.length ∧ 0 ≤ (gr l at_ most).2.1 := by
  obtain ⟨n, p, E, hg, ⟨h1, h2⟩ | ⟨rfl, ⟨h1, h2⟩ | ⟨h1, h3, h2⟩ | ⟨h1, h3, h4, h2⟩ | ⟨h1, h3, i, rfl, h4, h2⟩⟩⟩ := gr_cases l at_ most
  all_goals rw [h2] at h ⊢
  · exact absurd h h1
  · cases h
  · cases h
  · exact absurd h h4
  · dsimp only; omega
theorem gcT_p (l : List UInt8) (at_ : Int) (h : (gcT l at_).e = 0) : (gcT l at_).p ≤ l.length := by
  unfold gcT at h ⊢
  split at h
  · rename_i k; exact absurd h k
  split at h
  · rename_i k; exact absurd h k
  split at h
  · rename_i k; exact absurd h k
  split at h
  · rename_i k; exact absurd h k
  rename_i k1 k2 k3 k4
  rw [if_neg k1, if_neg k2, if_neg k3, if_neg k4]
  exact (gr_le l _ 100 (by simpa using k4)).1
set_option maxRecDepth 100000 in
set_option maxHeartbeats 8000000 in
theorem rread_coin_any (v : Value) (l : List UInt8) (w : World) (h : Rd w v l) (hr : l.length ≤ 140737488355328) :
    Calls Try.prog 24 #[v] w fun e w' => ∃ lk, e = .returned (.tuple #[.agg (ccel (rdT l).x (rdT l).n (rdT l).h (rdT l).v (rdT l).b lk), .int .i64 (rdT l).e]) ∧ Own w.heap.size w' lk (rdT l).lk ∧ Nx w w' := by
  have HP := Lib.hid (fun w h => rget_coin_any v l 0 w h hr)
  have HRD := Lib.hid (fun w' (n : Nx w w') => h.nx n)
  have HZL := Lib.hid Z32_length
  have HXL := Lib.hid (gcT_x l 0)
  have HPL := Lib.hid (gcT_p l 0)
  obtain ⟨hz2, hzs2⟩ := zero_of_info info_coin
  obtain ⟨A, c, rfl, -⟩ := h
  have hl : w.heap.size ≤ w.heap.size := Nat.le_refl _
  have R40 := Row.new w (ccel Z32 0 0 0 false (.slice none 0 0)) 31 _ rfl
  have N40 := Lib.hid ((Nx.refl w).alloc (.cells (ccel Z32 0 0 0 false (.slice none 0 0)) 31))
  have HLL := Lib.hid (show (l.length : Int) ≤ 9223372036854775807 by omega)
  unfold rdT
  generalize gcT l 0 = G at *
  obtain ⟨X, N, H, V, B, L, P0, E0⟩ := G
  dsimp only at *
  have cz := Lib.hid (coinsz Z32 0 0 0 false (.slice none 0 0) HZL.out)
  by_cases hE : E0 = 0
  · subst hE
    rw [if_neg (by simp)]
    by_cases hP : P0 = (l.length : Int)
    · rw [if_neg (by simpa using hP)]
      subst hP
      go_enter Try.func24, Try.ntmps24
      go_wp2_with fail
      refine (HP.out _ (HRD.out _ N40.out)).mono ?_
      rintro e w1 ⟨v1, rfl, o1, n1⟩
      have R41 := R40.nx n1
      have N1 := Lib.hid (N40.out.trans n1)
      have hne : w.heap.size ≠ w1.heap.size := Nat.ne_of_lt R41.lt
      have hs1 := N1.out.size
      obtain ⟨A3, c3, rfl, -⟩ := o1.rd
      have RP := Row.new w1 (ccel Z32 0 0 0 false (.slice none 0 0)) 31 _ rfl
      have RP2 := RP.setRow (ccel X N H V B (.slice A3 L.length c3))
      have NN : Nx w1 ((w1.alloc (.cells (ccel Z32 0 0 0 false (.slice none 0 0)) 31)).setRow w1.heap.size (ccel X N H V B (.slice A3 L.length c3))) := ((Nx.refl w1).alloc _).setRow _ (Nat.le_refl _)
      have R4 := R41.nx NN
      have hlt : w.heap.size < (w.alloc (.cells (ccel Z32 0 0 0 false (.slice none 0 0)) 31)).heap.size := by simp
      have O2 := Lib.hid (((o1.nx NN).setRow_lt (k := w.heap.size) (ccel X N H V B (.slice A3 L.length c3)) hlt).mono (Nat.le_of_lt hlt))
      have N2 := Lib.hid (N1.out.trans NN)
      have cx := Lib.hid (coinsz X N H V B (.slice A3 L.length c3) HXL.out)
      have dx : Hid ((ccel Z32 0 0 0 false (.slice none 0 0)).size = (ccel X N H V B (.slice A3 L.length c3)).size) := Lib.hid (by rw [ccel_size _ _ _ _ _ _ HXL.out, ccel_size _ _ _ _ _ _ HZL.out])
      clear o1 n1 NN hlt hne hs1 R41
      go_wp2_with (first | (refine wpList_store_row rfl 31 (.tmp 4) (.tmp 10) rfl w1.heap.size (ccel X N H V B (.slice A3 L.length c3)) rfl rfl 31 (ccel Z32 0 0 0 false (.slice none 0 0)) RP cx.out dx.out (ccel_one _ _ _ _ _ _ _ _) ?_) | (refine wpList_load_row rfl 31 (.tmp 4) rfl w1.heap.size rfl 31 (ccel X N H V B (.slice A3 L.length c3)) (0, 0) _ RP2 Try.underlying31 rfl cx.out ?_) | (refine wpList_store_row rfl 31 (.tmp 2) (.tmp 22) rfl w.heap.size (ccel X N H V B (.slice A3 L.length c3)) rfl rfl 31 (ccel Z32 0 0 0 false (.slice none 0 0)) R4 cx.out dx.out (ccel_one _ _ _ _ _ _ _ _) ?_))
      exact bodyPost_ret (results_cell_row2 Try.results24 _ _ w.heap.size 31 (ccel X N H V B (.slice A3 L.length c3)) (0, 0) _ rfl (R4.setRow _) Try.underlying31 rfl cx.out) rfl ⟨_, rfl, O2.out, N2.out.setRow _ hl⟩
    · rw [if_pos hP]
      unfold GC.bad
      have hlt : P0 < (l.length : Int) := by have := HPL.out rfl; omega
      have dP : decide (P0 < (l.length : Int)) = true := decide_eq_true hlt
      clear hP
      go_enter Try.func24, Try.ntmps24
      go_wp2_with fail
      refine (HP.out _ (HRD.out _ N40.out)).mono ?_
      rintro e w1 ⟨v1, rfl, o1, n1⟩
      have R41 := R40.nx n1
      have N1 := Lib.hid (N40.out.trans n1)
      obtain ⟨A3, c3, rfl, -⟩ := o1.rd
      have RP := Row.new w1 (ccel Z32 0 0 0 false (.slice none 0 0)) 31 _ rfl
      have NN : Nx w1 ((w1.alloc (.cells (ccel Z32 0 0 0 false (.slice none 0 0)) 31)).setRow w1.heap.size (ccel X N H V B (.slice A3 L.length c3))) := ((Nx.refl w1).alloc _).setRow _ (Nat.le_refl _)
      have R4 := R41.nx NN
      have N2 := Lib.hid (N1.out.trans NN)
      have cx := Lib.hid (coinsz X N H V B (.slice A3 L.length c3) HXL.out)
      have dx : Hid ((ccel Z32 0 0 0 false (.slice none 0 0)).size = (ccel X N H V B (.slice A3 L.length c3)).size) := Lib.hid (by rw [ccel_size _ _ _ _ _ _ HXL.out, ccel_size _ _ _ _ _ _ HZL.out])
      clear o1 n1 NN R41
      go_wp2_with (first | (refine wpList_store_row rfl 31 (.tmp 4) (.tmp 10) rfl w1.heap.size (ccel X N H V B (.slice A3 L.length c3)) rfl rfl 31 (ccel Z32 0 0 0 false (.slice none 0 0)) RP cx.out dx.out (ccel_one _ _ _ _ _ _ _ _) ?_) | (refine wpList_store_row rfl 31 (.tmp 2) (.tmp 21) rfl w.heap.size (ccel Z32 0 0 0 false (.slice none 0 0)) rfl rfl 31 (ccel Z32 0 0 0 false (.slice none 0 0)) R4 cz.out rfl (ccel_one _ _ _ _ _ _ _ _) ?_))
      exact bodyPost_ret (results_cell_row2 Try.results24 _ _ w.heap.size 31 (ccel Z32 0 0 0 false (.slice none 0 0)) (0, 0) _ rfl (R4.setRow _) Try.underlying31 rfl cz.out) rfl ⟨_, rfl, Own.nil _ _, N2.out.setRow _ hl⟩
  · rw [if_pos hE]
    unfold GC.bad
    have dE : (E0 != 0) = true := by simp [hE]
    clear hE
    go_enter Try.func24, Try.ntmps24
    go_wp2_with fail
    refine (HP.out _ (HRD.out _ N40.out)).mono ?_
    rintro e w1 ⟨v1, rfl, o1, n1⟩
    have R41 := R40.nx n1
    have N1 := Lib.hid (N40.out.trans n1)
    obtain ⟨A3, c3, rfl, -⟩ := o1.rd
    have RP := Row.new w1 (ccel Z32 0 0 0 false (.slice none 0 0)) 31 _ rfl
    have NN : Nx w1 ((w1.alloc (.cells (ccel Z32 0 0 0 false (.slice none 0 0)) 31)).setRow w1.heap.size (ccel X N H V B (.slice A3 L.length c3))) := ((Nx.refl w1).alloc _).setRow _ (Nat.le_refl _)
    have R4 := R41.nx NN
    have N2 := Lib.hid (N1.out.trans NN)
    have cx := Lib.hid (coinsz X N H V B (.slice A3 L.length c3) HXL.out)
    have dx : Hid ((ccel Z32 0 0 0 false (.slice none 0 0)).size = (ccel X N H V B (.slice A3 L.length c3)).size) := Lib.hid (by rw [ccel_size _ _ _ _ _ _ HXL.out, ccel_size _ _ _ _ _ _ HZL.out])
    clear o1 n1 NN R41
    go_wp2_with (first | (refine wpList_store_row rfl 31 (.tmp 4) (.tmp 10) rfl w1.heap.size (ccel X N H V B (.slice A3 L.length c3)) rfl rfl 31 (ccel Z32 0 0 0 false (.slice none 0 0)) RP cx.out dx.out (ccel_one _ _ _ _ _ _ _ _) ?_) | (refine wpList_store_row rfl 31 (.tmp 2) (.tmp 15) rfl w.heap.size (ccel Z32 0 0 0 false (.slice none 0 0)) rfl rfl 31 (ccel Z32 0 0 0 false (.slice none 0 0)) R4 cz.out rfl (ccel_one _ _ _ _ _ _ _ _) ?_))
    exact bodyPost_ret (results_cell_row2 Try.results24 _ _ w.heap.size 31 (ccel Z32 0 0 0 false (.slice none 0 0)) (0, 0) _ rfl (R4.setRow _) Try.underlying31 rfl cz.out) rfl ⟨_, rfl, Own.nil _ _, N2.out.setRow _ hl⟩
end Go.Proofs.Ytniaiglfgknfiaa
