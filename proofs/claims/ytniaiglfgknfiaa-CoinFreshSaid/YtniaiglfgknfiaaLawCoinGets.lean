/- LAYER 6: the walk of CoinGets. -/
import Derived.Deep.Cut
import Derived.Test.YtniaiglfgknfiaaCoinR5
namespace Go.Proofs.Ytniaiglfgknfiaa
open Go Go.RowKit
set_option linter.unusedVariables false
set_option linter.unusedSimpArgs false

theorem run_eqp {P : Program} {w : World} {a : Act} {o : Oper} (T : TypeId) (x y : Operand) (T' : TypeId) (ho : o.op = .binOp .eql T x y T') (X Y : Array Value)
    (hx : a.eval x = .agg X) (hy : a.eval y = .agg Y) (hgt : P.eqGuardType P.depth T = false) (b : Bool) (heq : (Op.equalIn 10000 T (.agg X) (.agg Y)).run P w = .ok b w) : (execOp a.eval o).run P w = .ok (.value (.bool b)) w := by
  unfold execOp
  simp only [ho]
  have e1 : (eqGuard .eql T x y (a.eval x) (a.eval y)).run P w = .ok () w := by
    rw [hx, hy, run_eqGuard_agg w .eql T x y X Y hgt]
  have e2 : (binOp .eql T (a.eval x) (a.eval y)).run P w = .ok (.bool b) w := by
    rw [hx, hy, run_eql_struct w T X Y, heq]
    rfl
  simp only [Sem.run_bind, e1, e2, Result.andThen_ok, Sem.run_pure]
theorem wpList_g {P : Program} {ops : Array Oper} {rest : List Oper} {o : Oper} {a : Act} {w : World} {Q : Exit → Act → World → Prop} (hw : Region.wanted o (yielded ops a.tmps) = true)
    (h : ∀ K : Act → World → Prop, (∀ a w, wpList P ops Q rest a w → K a w) → o.wp P a w K Q) : wpList P ops Q (o :: rest) a w :=
  wpList_step fun K hK => by rw [if_pos hw]; exact h K hK
set_option maxRecDepth 100000 in
set_option maxHeartbeats 8000000 in
theorem coinGets_law {w : World} (v0 : Value) (l0 : List UInt8) (h0 : Rd w v0 l0) (hr0 : l0.length ≤ 140737488351232) (at_ : Int) (_ : -9223372036854775808 ≤ at_) (_ : at_ ≤ 9223372036854775807) :
    Calls Try.prog 4 #[v0, .int .i64 at_] w fun e w' => e = .returned (.bool true) ∧ Nx w w' := by
  have hr : l0.length ≤ 140737488355328 := by omega
  have HP := Lib.hid (fun w h => getPoint_any v0 l0 at_ w h hr)
  have HRP := Lib.hid (fun w h => rgetPoint_any v0 l0 at_ w h hr)
  have HO := Lib.hid (fun w h => getOut_any v0 l0 at_ w h hr)
  have HRO := Lib.hid (fun w h => rgetOut_any v0 l0 at_ w h hr)
  have HG := Lib.hid (fun w h => get_coin_any v0 l0 at_ w h hr)
  have HRG := Lib.hid (fun w h => rget_coin_any v0 l0 at_ w h hr)
  have HE := Lib.hid (fun w h => read_coin_any v0 l0 w h hr)
  have HRE := Lib.hid (fun w h => rread_coin_any v0 l0 w h hr)
  have HRD := Lib.hid (fun w' (n : Nx w w') => h0.nx n)
  have HZL := Lib.hid Z32_length
  have HXL := Lib.hid (gpX_length l0 at_)
  have HGX := Lib.hid (gcT_x l0 at_)
  have HDX : Hid ((rdT l0).x.length = 32) := Lib.hid (by
    unfold rdT
    split
    · exact Z32_length
    split
    · exact Z32_length
    · exact gcT_x l0 0)
  have HSM : Hid (∀ (v1 v2 : Value) (l : List UInt8) (w : World), Rd w v1 l → Rd w v2 l → Calls Try.prog 13 #[v1, v2] w fun e w' => e = .returned (.bool true) ∧ Nx w w') := Lib.hid same_yes
  obtain ⟨hz, hzs⟩ := zero_of_info info_point
  obtain ⟨hz2, hzs2⟩ := zero_of_info info_coin
  obtain ⟨hz3, hzs3⟩ := zero_of_info info_out
  have io := Lib.hid hzs3
  obtain ⟨A, c, rfl, -⟩ := h0
  clear hr hr0
  generalize gpX l0 at_ = X at *
  generalize gpN l0 at_ = N at *
  generalize gpH l0 at_ = H at *
  generalize gpP l0 at_ = P0 at *
  generalize gpE l0 at_ = E0 at *
  generalize goT l0 at_ = O at *
  obtain ⟨OV, OL, OP, OE⟩ := O
  generalize gcT l0 at_ = G at *
  obtain ⟨GX, GN, GH, GV, GB, GL, GP, GE⟩ := G
  generalize rdT l0 = D at *
  obtain ⟨DX, DN, DH, DV, DB, DL, DP, DE⟩ := D
  dsimp only at *
  have ix := Lib.hid (pointsz X N H HXL.out)
  have jx := Lib.hid (pointsame Z32 X 0 0 N H HZL.out HXL.out)
  have HEQ : Hid (∀ w : World, (Op.equalIn 10000 27 (.agg (pcel X N H)) (.agg (pcel X N H))).run Try.prog w = .ok true w) := Lib.hid fun w => (eq_point2 X X N H N H HXL.out HXL.out w).trans (by simp)
  have N0 := Lib.hid (Nx.refl w)
  go_enter Try.func4, Try.ntmps4
  go_wp2_with fail
  refine (HP.out _ (HRD.out _ N0.out)).mono ?_
  rintro e u1 ⟨rfl, n1⟩
  have S1 : Nx u1 ((u1.alloc (.cells (pcel Z32 0 0) 27)).setRow u1.heap.size (pcel X N H)) := ((Nx.refl u1).alloc _).setRow _ (Nat.le_refl _)
  have M1 := n1.trans S1
  have Z1 := Row.new u1 (pcel Z32 0 0) 27 _ rfl
  have R1 := Z1.setRow (pcel X N H)
  have N1 := Lib.hid (N0.out.trans M1)
  clear n1 S1 M1
  go_wp2_with (first | (refine wpList_store_row rfl 27 (.tmp 5) (.tmp 31) rfl u1.heap.size (pcel X N H) rfl rfl 27 (pcel Z32 0 0) Z1 ix.out jx.out (pcel_one _ _ _) ?_))
  clear Z1
  refine (HRP.out _ (HRD.out _ N1.out)).mono ?_
  rintro e u2 ⟨rfl, n2⟩
  have S2 : Nx u2 ((u2.alloc (.cells (pcel Z32 0 0) 27)).setRow u2.heap.size (pcel X N H)) := ((Nx.refl u2).alloc _).setRow _ (Nat.le_refl _)
  have M2 := n2.trans S2
  have Z2 := Row.new u2 (pcel Z32 0 0) 27 _ rfl
  replace R1 := R1.nx M2
  have R2 := Z2.setRow (pcel X N H)
  have N2 := Lib.hid (N1.out.trans M2)
  clear n2 S2 M2
  go_wp2_with (first | (refine wpList_store_row rfl 27 (.tmp 8) (.tmp 38) rfl u2.heap.size (pcel X N H) rfl rfl 27 (pcel Z32 0 0) Z2 ix.out jx.out (pcel_one _ _ _) ?_))
  clear Z2
  refine (HO.out _ (HRD.out _ N2.out)).mono ?_
  rintro e u3 ⟨v3, rfl, o3, n3⟩
  have Q30 := o3.rd
  obtain ⟨A3, c3, rfl, -⟩ := o3.rd
  have S3 : Nx u3 ((u3.alloc (.cells #[.int .u64 0, .slice none 0 0] 33)).setRow u3.heap.size #[.int .u64 (OV : Int), .slice A3 OL.length c3]) := ((Nx.refl u3).alloc _).setRow _ (Nat.le_refl _)
  have M3 := n3.trans S3
  have Z3 := Row.new u3 #[.int .u64 0, .slice none 0 0] 33 _ rfl
  replace R1 := R1.nx M3
  replace R2 := R2.nx M3
  have R3 := Z3.setRow #[.int .u64 (OV : Int), .slice A3 OL.length c3]
  have Q3 := Lib.hid (Q30.nx S3)
  clear Q30 o3
  have N3 := Lib.hid (N2.out.trans M3)
  clear n3 S3 M3
  go_wp2_with (first | (refine wpList_store_row rfl 33 (.tmp 11) (.tmp 45) rfl u3.heap.size #[.int .u64 (OV : Int), .slice A3 OL.length c3] rfl rfl 33 #[.int .u64 0, .slice none 0 0] Z3 io.out rfl (ocel_one _ _ _ _) ?_))
  clear Z3
  refine (HRO.out _ (HRD.out _ N3.out)).mono ?_
  rintro e u4 ⟨v4, rfl, o4, n4⟩
  have Q40 := o4.rd
  obtain ⟨A4, c4, rfl, -⟩ := o4.rd
  have S4 : Nx u4 ((u4.alloc (.cells #[.int .u64 0, .slice none 0 0] 33)).setRow u4.heap.size #[.int .u64 (OV : Int), .slice A4 OL.length c4]) := ((Nx.refl u4).alloc _).setRow _ (Nat.le_refl _)
  have M4 := n4.trans S4
  have Z4 := Row.new u4 #[.int .u64 0, .slice none 0 0] 33 _ rfl
  replace R1 := R1.nx M4
  replace R2 := R2.nx M4
  replace R3 := R3.nx M4
  replace Q3 := Lib.hid (Q3.out.nx M4)
  have R4 := Z4.setRow #[.int .u64 (OV : Int), .slice A4 OL.length c4]
  have Q4 := Lib.hid (Q40.nx S4)
  clear Q40 o4
  have N4 := Lib.hid (N3.out.trans M4)
  clear n4 S4 M4
  go_wp2_with (first | (refine wpList_store_row rfl 33 (.tmp 14) (.tmp 52) rfl u4.heap.size #[.int .u64 (OV : Int), .slice A4 OL.length c4] rfl rfl 33 #[.int .u64 0, .slice none 0 0] Z4 io.out rfl (ocel_one _ _ _ _) ?_))
  clear Z4
  refine (HG.out _ (HRD.out _ N4.out)).mono ?_
  rintro e u5 ⟨v5, rfl, o5, n5⟩
  have Q50 := o5.rd
  obtain ⟨A5, c5, rfl, -⟩ := o5.rd
  have S5 : Nx u5 ((u5.alloc (.cells (ccel Z32 0 0 0 false (.slice none 0 0)) 31)).setRow u5.heap.size (ccel GX GN GH GV GB (.slice A5 GL.length c5))) := ((Nx.refl u5).alloc _).setRow _ (Nat.le_refl _)
  have M5 := n5.trans S5
  have Z5 := Row.new u5 (ccel Z32 0 0 0 false (.slice none 0 0)) 31 _ rfl
  replace R1 := R1.nx M5
  replace R2 := R2.nx M5
  replace R3 := R3.nx M5
  replace R4 := R4.nx M5
  replace Q3 := Lib.hid (Q3.out.nx M5)
  replace Q4 := Lib.hid (Q4.out.nx M5)
  have R5 := Z5.setRow (ccel GX GN GH GV GB (.slice A5 GL.length c5))
  have Q5 := Lib.hid (Q50.nx S5)
  clear Q50 o5
  have N5 := Lib.hid (N4.out.trans M5)
  clear n5 S5 M5
  have x5 := Lib.hid (coinsz GX GN GH GV GB (.slice A5 GL.length c5) HGX.out)
  have y5 : Hid ((ccel Z32 0 0 0 false (.slice none 0 0)).size = (ccel GX GN GH GV GB (.slice A5 GL.length c5)).size) := Lib.hid (by rw [ccel_size _ _ _ _ _ _ HGX.out, ccel_size _ _ _ _ _ _ HZL.out])
  go_wp2_with (first | (refine wpList_store_row rfl 31 (.tmp 17) (.tmp 59) rfl u5.heap.size (ccel GX GN GH GV GB (.slice A5 GL.length c5)) rfl rfl 31 (ccel Z32 0 0 0 false (.slice none 0 0)) Z5 x5.out y5.out (ccel_one _ _ _ _ _ _ _ _) ?_))
  clear Z5
  refine (HRG.out _ (HRD.out _ N5.out)).mono ?_
  rintro e u6 ⟨v6, rfl, o6, n6⟩
  have Q60 := o6.rd
  obtain ⟨A6, c6, rfl, -⟩ := o6.rd
  have S6 : Nx u6 ((u6.alloc (.cells (ccel Z32 0 0 0 false (.slice none 0 0)) 31)).setRow u6.heap.size (ccel GX GN GH GV GB (.slice A6 GL.length c6))) := ((Nx.refl u6).alloc _).setRow _ (Nat.le_refl _)
  have M6 := n6.trans S6
  have Z6 := Row.new u6 (ccel Z32 0 0 0 false (.slice none 0 0)) 31 _ rfl
  replace R1 := R1.nx M6
  replace R2 := R2.nx M6
  replace R3 := R3.nx M6
  replace R4 := R4.nx M6
  replace R5 := R5.nx M6
  replace Q3 := Lib.hid (Q3.out.nx M6)
  replace Q4 := Lib.hid (Q4.out.nx M6)
  replace Q5 := Lib.hid (Q5.out.nx M6)
  have R6 := Z6.setRow (ccel GX GN GH GV GB (.slice A6 GL.length c6))
  have Q6 := Lib.hid (Q60.nx S6)
  clear Q60 o6
  have N6 := Lib.hid (N5.out.trans M6)
  clear n6 S6 M6
  have x6 := Lib.hid (coinsz GX GN GH GV GB (.slice A6 GL.length c6) HGX.out)
  have y6 : Hid ((ccel Z32 0 0 0 false (.slice none 0 0)).size = (ccel GX GN GH GV GB (.slice A6 GL.length c6)).size) := Lib.hid (by rw [ccel_size _ _ _ _ _ _ HGX.out, ccel_size _ _ _ _ _ _ HZL.out])
  go_wp2_with (first | (refine wpList_store_row rfl 31 (.tmp 20) (.tmp 66) rfl u6.heap.size (ccel GX GN GH GV GB (.slice A6 GL.length c6)) rfl rfl 31 (ccel Z32 0 0 0 false (.slice none 0 0)) Z6 x6.out y6.out (ccel_one _ _ _ _ _ _ _ _) ?_))
  clear Z6
  refine (HE.out _ (HRD.out _ N6.out)).mono ?_
  rintro e u7 ⟨v7, rfl, o7, n7⟩
  have Q70 := o7.rd
  obtain ⟨A7, c7, rfl, -⟩ := o7.rd
  have S7 : Nx u7 ((u7.alloc (.cells (ccel Z32 0 0 0 false (.slice none 0 0)) 31)).setRow u7.heap.size (ccel DX DN DH DV DB (.slice A7 DL.length c7))) := ((Nx.refl u7).alloc _).setRow _ (Nat.le_refl _)
  have M7 := n7.trans S7
  have Z7 := Row.new u7 (ccel Z32 0 0 0 false (.slice none 0 0)) 31 _ rfl
  replace R1 := R1.nx M7
  replace R2 := R2.nx M7
  replace R3 := R3.nx M7
  replace R4 := R4.nx M7
  replace R5 := R5.nx M7
  replace R6 := R6.nx M7
  replace Q3 := Lib.hid (Q3.out.nx M7)
  replace Q4 := Lib.hid (Q4.out.nx M7)
  replace Q5 := Lib.hid (Q5.out.nx M7)
  replace Q6 := Lib.hid (Q6.out.nx M7)
  have R7 := Z7.setRow (ccel DX DN DH DV DB (.slice A7 DL.length c7))
  have Q7 := Lib.hid (Q70.nx S7)
  clear Q70 o7
  have N7 := Lib.hid (N6.out.trans M7)
  clear n7 S7 M7
  have x7 := Lib.hid (coinsz DX DN DH DV DB (.slice A7 DL.length c7) HDX.out)
  have y7 : Hid ((ccel Z32 0 0 0 false (.slice none 0 0)).size = (ccel DX DN DH DV DB (.slice A7 DL.length c7)).size) := Lib.hid (by rw [ccel_size _ _ _ _ _ _ HDX.out, ccel_size _ _ _ _ _ _ HZL.out])
  go_wp2_with (first | (refine wpList_store_row rfl 31 (.tmp 23) (.tmp 72) rfl u7.heap.size (ccel DX DN DH DV DB (.slice A7 DL.length c7)) rfl rfl 31 (ccel Z32 0 0 0 false (.slice none 0 0)) Z7 x7.out y7.out (ccel_one _ _ _ _ _ _ _ _) ?_))
  clear Z7
  refine (HRE.out _ (HRD.out _ N7.out)).mono ?_
  rintro e u8 ⟨v8, rfl, o8, n8⟩
  have Q80 := o8.rd
  obtain ⟨A8, c8, rfl, -⟩ := o8.rd
  have S8 : Nx u8 ((u8.alloc (.cells (ccel Z32 0 0 0 false (.slice none 0 0)) 31)).setRow u8.heap.size (ccel DX DN DH DV DB (.slice A8 DL.length c8))) := ((Nx.refl u8).alloc _).setRow _ (Nat.le_refl _)
  have M8 := n8.trans S8
  have Z8 := Row.new u8 (ccel Z32 0 0 0 false (.slice none 0 0)) 31 _ rfl
  replace R1 := R1.nx M8
  replace R2 := R2.nx M8
  replace R3 := R3.nx M8
  replace R4 := R4.nx M8
  replace R5 := R5.nx M8
  replace R6 := R6.nx M8
  replace R7 := R7.nx M8
  replace Q3 := Lib.hid (Q3.out.nx M8)
  replace Q4 := Lib.hid (Q4.out.nx M8)
  replace Q5 := Lib.hid (Q5.out.nx M8)
  replace Q6 := Lib.hid (Q6.out.nx M8)
  replace Q7 := Lib.hid (Q7.out.nx M8)
  have R8 := Z8.setRow (ccel DX DN DH DV DB (.slice A8 DL.length c8))
  have Q8 := Lib.hid (Q80.nx S8)
  clear Q80 o8
  have N8 := Lib.hid (N7.out.trans M8)
  clear n8 S8 M8
  have x8 := Lib.hid (coinsz DX DN DH DV DB (.slice A8 DL.length c8) HDX.out)
  have y8 : Hid ((ccel Z32 0 0 0 false (.slice none 0 0)).size = (ccel DX DN DH DV DB (.slice A8 DL.length c8)).size) := Lib.hid (by rw [ccel_size _ _ _ _ _ _ HDX.out, ccel_size _ _ _ _ _ _ HZL.out])
  have a3 := R3.cell (i := 0) (v := .int .u64 (OV : Int)) rfl
  have b3 := R3.cell (i := 1) (v := .slice A3 OL.length c3) rfl
  have a4 := R4.cell (i := 0) (v := .int .u64 (OV : Int)) rfl
  have b4 := R4.cell (i := 1) (v := .slice A4 OL.length c4) rfl
  go_upto_region 9 with (first | (refine wpList_val (some 26) rfl rfl (.int .i64 DE) (by kernel_rfl) (wpList_nil ?_)) | (refine wpList_store_row rfl 31 (.tmp 25) (.tmp 77) rfl u8.heap.size (ccel DX DN DH DV DB (.slice A8 DL.length c8)) rfl rfl 31 (ccel Z32 0 0 0 false (.slice none 0 0)) Z8 x8.out y8.out (ccel_one _ _ _ _ _ _ _ _) ?_))
  clear Z8
  refine wp_region_lit ?_
  simp only [List.append_eq, List.cons_append, List.nil_append]
  go_wp2_with (first | (refine wpList_load_at rfl 27 (.tmp 5) rfl u1.heap.size 0 rfl (pcel X N H) _ (fun j x hj => by rw [Nat.zero_add]; exact R1.cell hj) Try.underlying27 rfl ix.out ?_) | (refine wpList_load_at rfl 27 (.tmp 8) rfl u2.heap.size 0 rfl (pcel X N H) _ (fun j x hj => by rw [Nat.zero_add]; exact R2.cell hj) Try.underlying27 rfl ix.out ?_) | (refine wpList_val (some 81) rfl rfl (.bool true) (run_eqp 27 (.tmp 79) (.tmp 80) _ rfl _ _ rfl rfl (by kernel_rfl) _ (HEQ.out _)) ?_))
  clear a3 b3 a4 b4 R1 R2 R3 R4
  refine (HSM.out _ _ _ _ Q3.out Q4.out).mono ?_
  rintro e W9 ⟨rfl, m9⟩
  replace R5 := R5.nx m9
  replace R6 := R6.nx m9
  replace R7 := R7.nx m9
  replace R8 := R8.nx m9
  replace Q5 := Lib.hid (Q5.out.nx m9)
  replace Q6 := Lib.hid (Q6.out.nx m9)
  replace Q7 := Lib.hid (Q7.out.nx m9)
  replace Q8 := Lib.hid (Q8.out.nx m9)
  have N9 := Lib.hid (N8.out.trans m9)
  clear m9
  go_wp2_with (first | (refine wpList_g (by rfl) fun K hK => wp_load_row_of (some 117) rfl 31 (.tmp 17) rfl u5.heap.size rfl 31 (ccel GX GN GH GV GB (.slice A5 GL.length c5)) _ R5 Try.underlying31 rfl x5.out (hK _ _ ?_)) | (refine wpList_g (by rfl) fun K hK => wp_load_row_of (some 118) rfl 31 (.tmp 20) rfl u6.heap.size rfl 31 (ccel GX GN GH GV GB (.slice A6 GL.length c6)) _ R6 Try.underlying31 rfl x6.out (hK _ _ ?_)))
  refine (rsame_yes GX GN GH GV GB _ _ GL _ HGX.out Q5.out Q6.out).mono ?_
  rintro e WA ⟨rfl, mA⟩
  replace R7 := R7.nx mA
  replace R8 := R8.nx mA
  replace Q7 := Lib.hid (Q7.out.nx mA)
  replace Q8 := Lib.hid (Q8.out.nx mA)
  have NA := Lib.hid (N9.out.trans mA)
  clear mA
  go_wp2_with (first | (refine wpList_g (by rfl) fun K hK => wp_load_row_of (some 132) rfl 31 (.tmp 23) rfl u7.heap.size rfl 31 (ccel DX DN DH DV DB (.slice A7 DL.length c7)) _ R7 Try.underlying31 rfl x7.out (hK _ _ ?_)) | (refine wpList_g (by rfl) fun K hK => wp_load_row_of (some 133) rfl 31 (.tmp 25) rfl u8.heap.size rfl 31 (ccel DX DN DH DV DB (.slice A8 DL.length c8)) _ R8 Try.underlying31 rfl x8.out (hK _ _ ?_)))
  refine (rsame_yes DX DN DH DV DB _ _ DL _ HDX.out Q7.out Q8.out).mono ?_
  rintro e WB ⟨rfl, mB⟩
  have NB := Lib.hid (NA.out.trans mB)
  clear mB
  go_wp2_with fail
  refine (works_any _).mono ?_
  rintro e WC ⟨rfl, mC⟩
  have NC := Lib.hid (NB.out.trans mC)
  clear mC
  go_wp2_with fail
  go_ret
  exact ⟨rfl, NC.out⟩
end Go.Proofs.Ytniaiglfgknfiaa