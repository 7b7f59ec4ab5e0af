/- LAYER 6: the walk of CoinFresh. -/
import Derived.Deep.DeepCutAuto
import Derived.Test.YtniaiglfgknfiaaCoinR7
import Derived.Test.YtniaiglfgknfiaaLawCoinGets
import Derived.Test.YtniaiglfgknfiaaFresh
namespace Go.Proofs.Ytniaiglfgknfiaa
open Go Go.RowKit
set_option linter.unusedVariables false
set_option linter.unusedSimpArgs false
set_option linter.unusedVariables false
set_option linter.unusedSimpArgs false

theorem spoil_1 (B : Nat) (v : Value) (l : List UInt8) (w : World) (hown : Own B w v l) :
    Calls Try.prog 30 #[v, .int .u8 1] w fun e w' => e = .returned (.tuple #[]) ∧ Below B w w' := spoil_any B v l 1 w hown
theorem WideAt.setCell {B : Nat} {w : World} {v : Value} {l : List UInt8} (h : WideAt B w v l) (k i : Nat) (x : Value) (hk : k < B) : WideAt B (w.setCell ⟨k, i, none⟩ x) v l := by
  obtain ⟨g, rfl, hg, hh⟩ := h
  exact ⟨g, rfl, hg, (heap_setCell_other w ⟨k, i, none⟩ g x (by show g ≠ k; omega)).trans hh⟩
theorem ccel_set (tx : List UInt8) (n h v : Nat) (b : Bool) (a c : Value) (ht : tx.length = 32) : (ccel tx n h v b a).setIfInBounds 36 c = ccel tx n h v b c := by
  unfold ccel
  rw [List.setIfInBounds_toArray]
  congr 1
  have hl : (pcl tx n h).length = 34 := by simp [pcl, bvs, ht]
  rw [List.set_append_right _ _ (by omega), hl]
  rfl
set_option maxRecDepth 100000 in
set_option maxHeartbeats 8000000 in
theorem coinFresh_law {w : World} (tx : List UInt8) (n h v : Nat) (b : Bool) (A : Option Addr) (l : List UInt8) (c : Nat) (ht : tx.length = 32) (hn : n < 65536) (hh : h < 4294967296) (hvv : (v : Int) ≤ 18446744073709551615) (hl : Rd w (.slice A l.length c) l) (hlr : l.length ≤ 140737488351232)
    (vb : Value) (bl : List UInt8) (hb : Rd w vb bl) (hbr : bl.length ≤ 140737488351232) :
    Calls Try.prog 8 #[.agg (ccel tx n h v b (.slice A l.length c)), vb] w fun e w' => e = .returned (.bool true) ∧ Nx w w' := by
  have HW := Lib.hid (fun w h => wide_any (.slice A l.length c) l w h (by omega))
  have HW2 := Lib.hid (fun w h => wide_any vb bl w h (by omega))
  have HLE : Hid (∀ (B : Nat) (w : World) (v v' : Value), WideAt B w v l → Rd w v' l → Calls Try.prog 31 #[v, v'] w fun e w' => e = .returned (.bool true) ∧ Nx w w') := Lib.hid (fun B w v v' h1 h2 => left_any B v v' l w h1 h2 (by omega))
  have HLB : Hid (∀ (B : Nat) (w : World) (v v' : Value), WideAt B w v bl → Rd w v' bl → Calls Try.prog 31 #[v, v'] w fun e w' => e = .returned (.bool true) ∧ Nx w w') := Lib.hid (fun B w v v' h1 h2 => left_any B v v' bl w h1 h2 (by omega))
  have HP := Lib.hid (fun w v' h' => put_coin_any tx n h v b v' l w ht hn hh h' (by omega))
  have HRP := Lib.hid (fun w v' h' => rput_coin_any tx n h v b v' l w ht hn hh hvv h' hlr)
  have HG := Lib.hid (fun w v' h' => get_coin_any v' bl 0 w h' (by omega))
  have HRG := Lib.hid (fun w v' h' => rget_coin_any v' bl 0 w h' (by omega))
  have HO := Lib.hid (fun w v' h' => getOut_any v' bl 0 w h' (by omega))
  have HRO := Lib.hid (fun w v' h' => rgetOut_any v' bl 0 w h' (by omega))
  have HLR : Hid (l.length ≤ 140737488355328) := Lib.hid (by omega)
  have HBR : Hid (bl.length ≤ 140737488355328) := Lib.hid (by omega)
  have HT := Lib.hid ht
  have cz := Lib.hid (fun lk => coinsz tx n h v b lk ht)
  have HCL := Lib.hid (fun lk => ccel_l tx n h v b lk ht)
  have HCS := Lib.hid (fun a c => ccel_set tx n h v b a c ht)
  have HGX := Lib.hid (gcT_x bl 0)
  obtain ⟨hz2, hzs2⟩ := zero_of_info info_coin
  obtain ⟨hz3, hzs3⟩ := zero_of_info info_out
  have io := Lib.hid hzs3
  have R00 := Lib.hid (Row.new w (ccel tx n h v b (.slice A l.length c)) 31 _ rfl)
  have N00 := Lib.hid ((Nx.refl w).alloc (.cells (ccel tx n h v b (.slice A l.length c)) 31))
  have HL0 := Lib.hid hl
  have HB0 := Lib.hid hb
  have RL0 := Lib.hid (hl.nx N00.out)
  have RB0 := Lib.hid (hb.nx N00.out)
  obtain ⟨Ab, cb, rfl, -, -, -⟩ := hb
  clear hn hh hvv hl hlr hbr ht
  generalize coinB tx n h v b l = CL at *
  generalize outE v l = CE at *
  generalize goT bl 0 = O at *
  obtain ⟨OV, OL, OP, OE⟩ := O
  generalize gcT bl 0 = G at *
  obtain ⟨GX, GN, GH, GV, GB, GL, GP, GE⟩ := G
  dsimp only at *
  go_enter Try.func8, Try.ntmps8
  go_upto_region 1 with fail
  have hlt0 : w.heap.size < (w.alloc (.cells (ccel tx n h v b (.slice A l.length c)) 31)).heap.size := by simp
  have HLT := Lib.hid hlt0
  clear hlt0
  generalize w.alloc (.cells (ccel tx n h v b (.slice A l.length c)) 31) = W0 at *
  have R0 := R00.out
  have Z1 := Row.new W0 (ccel Z32 0 0 0 false (.slice none 0 0)) 31 _ rfl
  have S1 : Nx W0 ((W0.alloc (.cells (ccel Z32 0 0 0 false (.slice none 0 0)) 31)).setRow W0.heap.size (ccel tx n h v b (.slice A l.length c))) := ((Nx.refl W0).alloc _).setRow _ (Nat.le_refl _)
  have R1 := R0.nx S1
  have M1 := Z1.setRow (ccel tx n h v b (.slice A l.length c))
  have a36 := R1.cell (HCL.out (.slice A l.length c))
  have y1 : Hid ((ccel Z32 0 0 0 false (.slice none 0 0)).size = (ccel tx n h v b (.slice A l.length c)).size) := Lib.hid (by rw [ccel_size _ _ _ _ _ _ HT.out, ccel_size _ _ _ _ _ _ Z32_length])
  go_wp2_with (first | (refine wpList_load_row rfl 31 (.tmp 2) rfl (w.heap.size) rfl 31 (ccel tx n h v b (.slice A l.length c)) (0, 0) _ R0 Try.underlying31 rfl (cz.out _) ?_) | (refine wpList_store_row rfl 31 (.tmp 5) (.tmp 25) rfl (W0.heap.size) (ccel tx n h v b (.slice A l.length c)) rfl rfl 31 (ccel Z32 0 0 0 false (.slice none 0 0)) Z1 (cz.out _) y1.out (ccel_one _ _ _ _ _ _ _ _) ?_))
  have N1 := Lib.hid (N00.out.trans S1)
  have RL := Lib.hid (RL0.out.nx S1)
  have RB := Lib.hid (RB0.out.nx S1)
  have HB1 : Hid (W0.heap.size < ((W0.alloc (.cells (ccel Z32 0 0 0 false (.slice none 0 0)) 31)).setRow W0.heap.size (ccel tx n h v b (.slice A l.length c))).heap.size) := Lib.hid M1.lt
  clear R0 Z1 a36 y1 R00 N00 RL0 RB0
  have S1s := Lib.hid S1.size
  clear S1
  generalize (W0.alloc (.cells (ccel Z32 0 0 0 false (.slice none 0 0)) 31)).setRow W0.heap.size (ccel tx n h v b (.slice A l.length c)) = W1 at *
  refine (HW.out _ RL.out).mono ?_
  rintro e w2 ⟨v1, rfl, ow, n2⟩
  have ow' := ow
  obtain ⟨gv, rfl, hgv, -⟩ := ow'
  have R2 := R1.nx n2
  have M2 := M1.nx n2
  have c36 := M2.cell (HCL.out (.slice A l.length c))
  have f36 := M2.frozen 36
  have M3 := M2.set 36 (.slice (some ⟨gv, 0, none⟩) l.length (l.length + 3))
  rw [HCS.out] at M3
  have R3 := R2.other W0.heap.size 36 (.slice (some ⟨gv, 0, none⟩) l.length (l.length + 3)) (Nat.ne_of_lt HLT.out)
  have N3 := Lib.hid (Nx.setAt (i := 36) (N1.out.trans n2) (k := W0.heap.size) (.slice (some ⟨gv, 0, none⟩) l.length (l.length + 3)) (Nat.le_of_lt HLT.out))
  have OW := Lib.hid (ow.setCell W0.heap.size 36 (.slice (some ⟨gv, 0, none⟩) l.length (l.length + 3)) HB1.out)
  have N13 := Lib.hid (Nx.setAt (i := 36) ((Nx.refl W0)) (k := W0.heap.size) (.slice (some ⟨gv, 0, none⟩) l.length (l.length + 3)) (Nat.le_refl _))
  clear ow R1 M1 R2 N13
  go_wp2_with (first | (refine wpList_load_row rfl 31 (.tmp 5) rfl (W0.heap.size) rfl 31 (ccel tx n h v b (.slice (some ⟨gv, 0, none⟩) l.length (l.length + 3))) (0, 0) _ M3 Try.underlying31 rfl (cz.out _) ?_))

  generalize w2.setCell ⟨W0.heap.size, 36, none⟩ (.slice (some ⟨gv, 0, none⟩) l.length (l.length + 3)) = w3 at *
  have R := R3
  have M := M3
  have N := N3
  clear M2 R3 M3 N3 c36 f36 n2 RL RB N1 HB1 S1s HW
  refine (HP.out _ _ (OW.out.rd HLR.out)).mono ?_
  rintro e w4 ⟨va, rfl, oa, n4⟩
  go_wp2_with fail
  refine (spoil_1 _ va _ w4 oa).mono ?_
  rintro e w5 ⟨rfl, b5⟩
  have n5 := n4.app b5
  clear n4 b5 oa
  replace R := R.nx n5
  replace M := M.nx n5
  replace OW := Lib.hid (OW.out.nx n5)
  replace N := Lib.hid (N.out.trans n5)
  clear n5
  go_wp2_with fail
  refine (HW2.out _ (HB0.out.nx N.out)).mono ?_
  rintro e w6 ⟨v2, rfl, ow2, n6⟩
  have OB := Lib.hid ow2
  replace R := R.nx n6
  replace M := M.nx n6
  replace OW := Lib.hid (OW.out.nx n6)
  replace N := Lib.hid (N.out.trans n6)
  clear n6 ow2
  go_wp2_with fail
  refine (HG.out _ _ (OB.out.rd HBR.out)).mono ?_
  rintro e u1 ⟨lk1, rfl, o1, n1⟩
  have q1 := o1.rd
  obtain ⟨A1, c1, rfl, -, -⟩ := q1
  have S1 : Nx u1 ((u1.alloc (.cells (ccel Z32 0 0 0 false (.slice none 0 0)) 31)).setRow u1.heap.size (ccel GX GN GH GV GB (.slice A1 GL.length c1))) := ((Nx.refl u1).alloc _).setRow _ (Nat.le_refl _)
  have Z1 := Row.new u1 (ccel Z32 0 0 0 false (.slice none 0 0)) 31 _ rfl
  have X1 := Z1.setRow (ccel GX GN GH GV GB (.slice A1 GL.length c1))
  have x1 := Lib.hid (coinsz GX GN GH GV GB (.slice A1 GL.length c1) HGX.out)
  have y1 : Hid ((ccel Z32 0 0 0 false (.slice none 0 0)).size = (ccel GX GN GH GV GB (.slice A1 GL.length c1)).size) := Lib.hid (by rw [ccel_size _ _ _ _ _ _ HGX.out, ccel_size _ _ _ _ _ _ Z32_length])
  have l1 := X1.cell (ccel_l GX GN GH GV GB (.slice A1 GL.length c1) HGX.out)
  go_wp2_with (first | (refine wpList_store_row rfl 31 (.tmp 9) (.tmp 42) rfl (u1.heap.size) (ccel GX GN GH GV GB (.slice A1 GL.length c1)) rfl rfl 31 (ccel Z32 0 0 0 false (.slice none 0 0)) Z1 x1.out y1.out (ccel_one _ _ _ _ _ _ _ _) ?_))
  refine (spoil_1 _ _ _ _ (o1.nx S1)).mono ?_
  rintro e s1 ⟨rfl, b1⟩
  have m1 := (n1.trans S1).app b1
  clear n1 S1 b1 o1 Z1 X1 l1
  replace R := R.nx m1
  replace M := M.nx m1
  replace OW := Lib.hid (OW.out.nx m1)
  replace N := Lib.hid (N.out.trans m1)
  replace OB := Lib.hid (OB.out.nx m1)
  clear m1
  go_wp2_with fail
  refine (HO.out _ _ (OB.out.rd HBR.out)).mono ?_
  rintro e u2 ⟨lk2, rfl, o2, n2⟩
  have q2 := o2.rd
  obtain ⟨A2, c2, rfl, -, -⟩ := q2
  have S2 : Nx u2 ((u2.alloc (.cells #[.int .u64 0, .slice none 0 0] 33)).setRow u2.heap.size #[.int .u64 (OV : Int), .slice A2 OL.length c2]) := ((Nx.refl u2).alloc _).setRow _ (Nat.le_refl _)
  have Z2 := Row.new u2 #[.int .u64 0, .slice none 0 0] 33 _ rfl
  have X2 := Z2.setRow #[.int .u64 (OV : Int), .slice A2 OL.length c2]
  have l2 := X2.cell (i := 1) (v := .slice A2 OL.length c2) rfl
  go_wp2_with (first | (refine wpList_store_row rfl 33 (.tmp 12) (.tmp 51) rfl (u2.heap.size) #[.int .u64 (OV : Int), .slice A2 OL.length c2] rfl rfl 33 #[.int .u64 0, .slice none 0 0] Z2 io.out rfl (ocel_one _ _ _ _) ?_))
  refine (spoil_1 _ _ _ _ (o2.nx S2)).mono ?_
  rintro e s2 ⟨rfl, b2⟩
  have m2 := (n2.trans S2).app b2
  clear n2 S2 b2 o2 Z2 X2 l2
  replace R := R.nx m2
  replace M := M.nx m2
  replace OW := Lib.hid (OW.out.nx m2)
  replace N := Lib.hid (N.out.trans m2)
  replace OB := Lib.hid (OB.out.nx m2)
  clear m2
  go_wp2_with fail
  refine (HRG.out _ _ (HB0.out.nx N.out)).mono ?_
  rintro e u3 ⟨lk3, rfl, o3, n3⟩
  have q3 := o3.rd
  obtain ⟨A3, c3, rfl, -, -⟩ := q3
  have S3 : Nx u3 ((u3.alloc (.cells (ccel Z32 0 0 0 false (.slice none 0 0)) 31)).setRow u3.heap.size (ccel GX GN GH GV GB (.slice A3 GL.length c3))) := ((Nx.refl u3).alloc _).setRow _ (Nat.le_refl _)
  have Z3 := Row.new u3 (ccel Z32 0 0 0 false (.slice none 0 0)) 31 _ rfl
  have X3 := Z3.setRow (ccel GX GN GH GV GB (.slice A3 GL.length c3))
  have x3 := Lib.hid (coinsz GX GN GH GV GB (.slice A3 GL.length c3) HGX.out)
  have y3 : Hid ((ccel Z32 0 0 0 false (.slice none 0 0)).size = (ccel GX GN GH GV GB (.slice A3 GL.length c3)).size) := Lib.hid (by rw [ccel_size _ _ _ _ _ _ HGX.out, ccel_size _ _ _ _ _ _ Z32_length])
  have l3 := X3.cell (ccel_l GX GN GH GV GB (.slice A3 GL.length c3) HGX.out)
  have m3 := n3.trans S3
  replace R := R.nx m3
  replace M := M.nx m3
  replace OW := Lib.hid (OW.out.nx m3)
  replace N := Lib.hid (N.out.trans m3)
  replace OB := Lib.hid (OB.out.nx m3)
  clear m3
  go_wp2_with (first | (refine wpList_store_row rfl 31 (.tmp 15) (.tmp 60) rfl (u3.heap.size) (ccel GX GN GH GV GB (.slice A3 GL.length c3)) rfl rfl 31 (ccel Z32 0 0 0 false (.slice none 0 0)) Z3 x3.out y3.out (ccel_one _ _ _ _ _ _ _ _) ?_) | (refine wpList_load_row rfl 31 (.tmp 2) rfl (w.heap.size) rfl 31 (ccel tx n h v b (.slice A l.length c)) (0, 0) _ R Try.underlying31 rfl (cz.out _) ?_))
  clear n3 S3 o3 Z3 l3 X3
  refine (HRO.out _ _ (HB0.out.nx N.out)).mono ?_
  rintro e u4 ⟨lk4, rfl, o4, n4⟩
  have q4 := o4.rd
  obtain ⟨A4, c4, rfl, -, -⟩ := q4
  have S4 : Nx u4 ((u4.alloc (.cells #[.int .u64 0, .slice none 0 0] 33)).setRow u4.heap.size #[.int .u64 (OV : Int), .slice A4 OL.length c4]) := ((Nx.refl u4).alloc _).setRow _ (Nat.le_refl _)
  have Z4 := Row.new u4 #[.int .u64 0, .slice none 0 0] 33 _ rfl
  have X4 := Z4.setRow #[.int .u64 (OV : Int), .slice A4 OL.length c4]
  have l4 := X4.cell (i := 1) (v := .slice A4 OL.length c4) rfl
  have m4 := n4.trans S4
  replace R := R.nx m4
  replace M := M.nx m4
  replace OW := Lib.hid (OW.out.nx m4)
  replace N := Lib.hid (N.out.trans m4)
  replace OB := Lib.hid (OB.out.nx m4)
  clear m4
  go_wp2_with (first | (refine wpList_store_row rfl 33 (.tmp 18) (.tmp 66) rfl (u4.heap.size) #[.int .u64 (OV : Int), .slice A4 OL.length c4] rfl rfl 33 #[.int .u64 0, .slice none 0 0] Z4 io.out rfl (ocel_one _ _ _ _) ?_) | (refine wpList_load_row rfl 31 (.tmp 2) rfl (w.heap.size) rfl 31 (ccel tx n h v b (.slice A l.length c)) (0, 0) _ R Try.underlying31 rfl (cz.out _) ?_))
  clear n4 S4 o4 Z4 l4 X4
  refine (HP.out _ _ (HL0.out.nx N.out)).mono ?_
  rintro e w7 ⟨vp, rfl, op, n7⟩
  have OP1 := Lib.hid op.rd
  replace R := R.nx n7
  replace M := M.nx n7
  replace OW := Lib.hid (OW.out.nx n7)
  replace N := Lib.hid (N.out.trans n7)
  replace OB := Lib.hid (OB.out.nx n7)
  clear n7 op
  go_wp2_with (first | (refine wpList_load_row rfl 31 (.tmp 2) rfl (w.heap.size) rfl 31 (ccel tx n h v b (.slice A l.length c)) (0, 0) _ R Try.underlying31 rfl (cz.out _) ?_))
  refine (HRP.out _ _ (HL0.out.nx N.out)).mono ?_
  rintro e w8 ⟨vq, rfl, oq, n8⟩
  have OQ1 := Lib.hid oq.rd
  replace R := R.nx n8
  replace M := M.nx n8
  replace OW := Lib.hid (OW.out.nx n8)
  replace N := Lib.hid (N.out.trans n8)
  replace OB := Lib.hid (OB.out.nx n8)
  replace OP1 := Lib.hid (OP1.out.nx n8)
  clear n8 oq
  have a1 := M.cell (HCL.out (.slice (some ⟨gv, 0, none⟩) l.length (l.length + 3)))
  have a2 := R.cell (HCL.out (.slice A l.length c))
  have e1 : ∀ x : Int, (x == x) = true := fun x => by simp
  go_wp2_with fail
  refine (HLE.out _ _ _ _ OW.out (HL0.out.nx N.out)).mono ?_
  rintro e w9 ⟨rfl, n9⟩
  clear a1 a2
  replace R := R.nx n9
  replace M := M.nx n9
  replace OW := Lib.hid (OW.out.nx n9)
  replace N := Lib.hid (N.out.trans n9)
  replace OB := Lib.hid (OB.out.nx n9)
  replace OP1 := Lib.hid (OP1.out.nx n9)
  replace OQ1 := Lib.hid (OQ1.out.nx n9)
  clear n9
  go_wp2_with fail
  refine (HLB.out _ _ _ _ OB.out (HB0.out.nx N.out)).mono ?_
  rintro e w10 ⟨rfl, n10⟩
  replace R := R.nx n10
  replace M := M.nx n10
  replace OW := Lib.hid (OW.out.nx n10)
  replace N := Lib.hid (N.out.trans n10)
  replace OB := Lib.hid (OB.out.nx n10)
  replace OP1 := Lib.hid (OP1.out.nx n10)
  replace OQ1 := Lib.hid (OQ1.out.nx n10)
  clear n10
  go_wp2_with fail
  refine (same_yes _ _ CL _ OP1.out OQ1.out).mono ?_
  rintro e w11 ⟨rfl, n11⟩
  replace R := R.nx n11
  replace M := M.nx n11
  replace OW := Lib.hid (OW.out.nx n11)
  replace N := Lib.hid (N.out.trans n11)
  replace OB := Lib.hid (OB.out.nx n11)
  replace OP1 := Lib.hid (OP1.out.nx n11)
  replace OQ1 := Lib.hid (OQ1.out.nx n11)
  clear n11
  go_wp2_with fail
  refine (works_any _).mono ?_
  rintro e w12 ⟨rfl, n12⟩
  replace N := Lib.hid (N.out.trans n12)
  clear n12
  go_wp2_with fail
  go_ret
  exact ⟨rfl, N.out⟩
end Go.Proofs.Ytniaiglfgknfiaa