/- LAYER 6: what the document tells (works). -/
import Derived.Test.YtniaiglfgknfiaaCoin8
namespace Go.Proofs.Ytniaiglfgknfiaa
open Go Go.RowKit
set_option linter.unusedVariables false
set_option linter.unusedSimpArgs false

theorem gcT_out (l : List UInt8) (at_ : Int) (E : Int) (h : gpE l at_ = E) (hE : E ≠ 0) : gcT l at_ = .bad E := by
  unfold gcT
  rw [h, if_pos hE]
set_option maxRecDepth 100000 in
set_option maxHeartbeats 8000000 in
theorem works_any (w : World) : Calls Try.prog 16 #[] w fun e w' => e = .returned (.bool true) ∧ Nx w w' := by
  have HZL := Lib.hid Z32_length
  obtain ⟨hz, hzs⟩ := zero_of_info info_point
  obtain ⟨hz2, hzs2⟩ := zero_of_info info_coin
  have cz := Lib.hid (coinsz Z32 0 0 0 false (.slice none 0 0) HZL.out)
  have HP1 : Hid (∀ w, Calls Try.prog 11 #[.agg (ccel Z32 0 0 5 false (.slice none 0 0))] w fun e w' => ∃ r, e = .returned (.tuple #[r, .int .i64 0]) ∧ Own w.heap.size w' r (coinB Z32 0 0 5 false []) ∧ Nx w w') := Lib.hid fun w =>
    put_coin_any Z32 0 0 5 false (.slice none 0 0) [] w Z32_length (by decide) (by decide) (Rd.nil w) (by decide)
  have HP2 : Hid (∀ w, Calls Try.prog 11 #[.agg (ccel Z32 0 0 1125899906842625 false (.slice none 0 0))] w fun e w' => ∃ r, e = .returned (.tuple #[r, .int .i64 2]) ∧ Nx w w') := Lib.hid fun w => by
    refine (put_coin_any Z32 0 0 1125899906842625 false (.slice none 0 0) [] w Z32_length (by decide) (by decide) (Rd.nil w) (by decide)).mono ?_
    rintro e w' ⟨r, h1, -, h3⟩
    exact ⟨r, h1, h3⟩
  have HB : Hid ((coinB Z32 0 0 5 false []).length = 48) := Lib.hid (by decide +kernel)
  have HPT : Hid (∀ w, Calls Try.prog 14 #[.agg (pcel Z32 0 0)] w fun e w' => ∃ v, e = .returned v ∧ Own w.heap.size w' v (ptL Z32 0 0) ∧ Nx w w') := Lib.hid fun w => putPoint_any Z32 0 0 Z32_length (by decide) (by decide) w
  have HPL : Hid ((ptL Z32 0 0).length = 38) := Lib.hid (by decide +kernel)
  have HRE : Hid ((rdT []).e = 4) := Lib.hid (by decide +kernel)
  have HRX : Hid ((rdT []).x.length = 32) := Lib.hid (by decide +kernel)
  have HR := Lib.hid (fun w => read_coin_any (.slice none 0 0) [] w (Rd.nil w) (by decide))
  have HG := Lib.hid (fun v w h => get_coin_any v (coinB Z32 0 0 5 false []) 49 w h (by rw [HB.out]; decide))
  have HGT : Hid (gcT (coinB Z32 0 0 5 false []) 49 = .bad 2) := Lib.hid (gcT_out _ _ _ (by unfold gpE; rw [HB.out]; decide) (by decide))
  rw [HGT.out] at HG
  clear HGT
  unfold GC.bad at HG
  generalize coinB Z32 0 0 5 false [] = B at *
  generalize ptL Z32 0 0 = PL at *
  rw [HRE.out] at HR
  clear HRE
  generalize rdT [] = G at *
  obtain ⟨X, N, H, V, BB, L, P0, E0⟩ := G
  dsimp only at *
  go_enter Try.func16, Try.ntmps16
  go_wp2_with (first | (refine wpList_val (some 11) rfl rfl (.agg (ccel Z32 0 0 5 false (.slice none 0 0))) ?_ ?_; (focus kernel_rfl)))
  refine (HP1.out _).mono ?_
  rintro e w1 ⟨v1, rfl, o1, n1⟩
  have N1 := Lib.hid n1
  have RB1 := Lib.hid o1.rd
  obtain ⟨A1, c1, rfl, -⟩ := o1.rd
  clear o1 n1
  go_wp2_with fail
  refine (HR.out _).mono ?_
  rintro e w2 ⟨v2, rfl, o2, n2⟩
  have RB2 := Lib.hid (RB1.out.nx n2)
  have N2 := Lib.hid (N1.out.trans n2)
  obtain ⟨A2, c2, rfl, -⟩ := o2.rd
  clear o2 n2
  have RP := Row.new w2 (ccel Z32 0 0 0 false (.slice none 0 0)) 31 _ rfl
  have cx := Lib.hid (coinsz X N H V BB (.slice A2 L.length c2) HRX.out)
  have dx : Hid ((ccel Z32 0 0 0 false (.slice none 0 0)).size = (ccel X N H V BB (.slice A2 L.length c2)).size) := Lib.hid (by rw [ccel_size _ _ _ _ _ _ HRX.out, ccel_size _ _ _ _ _ _ HZL.out])
  have NN : Hid (Nx w2 ((w2.alloc (.cells (ccel Z32 0 0 0 false (.slice none 0 0)) 31)).setRow w2.heap.size (ccel X N H V BB (.slice A2 L.length c2)))) := Lib.hid (((Nx.refl w2).alloc _).setRow _ (Nat.le_refl _))
  go_wp2_with (first | (refine wpList_store_row rfl 31 (.tmp 3) (.tmp 17) rfl w2.heap.size (ccel X N H V BB (.slice A2 L.length c2)) rfl rfl 31 (ccel Z32 0 0 0 false (.slice none 0 0)) RP cx.out dx.out (ccel_one _ _ _ _ _ _ _ _) ?_))
  refine (HG.out _ _ (RB2.out.nx NN.out)).mono ?_
  rintro e w3 ⟨v3, rfl, o3, n3⟩
  have N3 := Lib.hid ((N2.out.trans NN.out).trans n3)
  obtain ⟨A3, c3, rfl, -⟩ := o3.rd
  clear o3 n3 RP
  have RP := Row.new w3 (ccel Z32 0 0 0 false (.slice none 0 0)) 31 _ rfl
  have cx3 := Lib.hid (coinsz Z32 0 0 0 false (.slice A3 0 c3) HZL.out)
  have dx3 : Hid ((ccel Z32 0 0 0 false (.slice none 0 0)).size = (ccel Z32 0 0 0 false (.slice A3 0 c3)).size) := Lib.hid (by rw [ccel_size _ _ _ _ _ _ HZL.out, ccel_size _ _ _ _ _ _ HZL.out])
  have N4 := Lib.hid ((N3.out.alloc (.cells (ccel Z32 0 0 0 false (.slice none 0 0)) 31)).setRow (g := w3.heap.size) (ccel Z32 0 0 0 false (.slice A3 0 c3)) N3.out.size)
  go_wp2_with (first | (refine wpList_store_row rfl 31 (.tmp 5) (.tmp 22) rfl w3.heap.size (ccel Z32 0 0 0 false (.slice A3 0 c3)) rfl rfl 31 (ccel Z32 0 0 0 false (.slice none 0 0)) RP cx3.out dx3.out (ccel_one _ _ _ _ _ _ _ _) ?_) | (refine wpList_val (some 26) rfl rfl (.agg (ccel Z32 0 0 1125899906842625 false (.slice none 0 0))) ?_ ?_; (focus kernel_rfl)))
  refine (HP2.out _).mono ?_
  rintro e w4 ⟨v4, rfl, n4⟩
  have N5 := Lib.hid (N4.out.trans n4)
  clear n4 RP
  go_wp2_with fail
  refine (HPT.out _).mono ?_
  rintro e w5 ⟨v5, rfl, o5, n5⟩
  have N6 := Lib.hid (N5.out.trans n5)
  obtain ⟨A5, c5, rfl, -⟩ := o5.rd
  clear o5 n5
  have hp := HPL.out
  have hb := HB.out
  rw [hp]
  go_wp2_with fail
  go_ret
  exact ⟨rfl, N6.out⟩
end Go.Proofs.Ytniaiglfgknfiaa
