/- LAYER 6: the walk of CoinPuts. -/
import Derived.Test.YtniaiglfgknfiaaCoinR7
namespace Go.Proofs.Ytniaiglfgknfiaa
open Go Go.RowKit
set_option linter.unusedVariables false
set_option linter.unusedSimpArgs false
set_option linter.unusedVariables false
set_option linter.unusedSimpArgs false

theorem wp_eqi_of {P : Program} {o : Oper} {a : Act} {w : World} {K : Act → World → Prop} {Q : Exit → Act → World → Prop} (dst : Option Tmp) (hd : o.dst = dst) (T : TypeId) (x y : Operand) (T' : TypeId) (ho : o.op = .binOp .eql T x y T') (k : IntKind) (z : Int)
    (hx : a.eval x = .int k z) (hy : a.eval y = .int k z) (h : K (a.put dst (.bool true)) w) : o.wp P a w K Q := by
  refine wp_val_of dst hd (.bool true) ?_ h
  unfold execOp
  simp only [ho, hx, hy]
  have e1 : (eqGuard .eql T x y (.int k z) (.int k z)).run P w = .ok () w := by
    simp [eqGuard]
  have e2 : (binOp .eql T (.int k z) (.int k z)).run P w = .ok (.bool true) w := by
    simp [binOp, Op.intCmp]
  simp only [Sem.run_bind, e1, e2, Result.andThen_ok, Sem.run_pure]
set_option maxRecDepth 100000 in
set_option maxHeartbeats 8000000 in
theorem coinPuts_law {w : World} (tx : List UInt8) (n h v : Nat) (b : Bool) (A : Option Addr) (l : List UInt8) (c : Nat) (ht : tx.length = 32) (hn : n < 65536) (hh : h < 4294967296) (hvv : (v : Int) ≤ 18446744073709551615) (hl : Rd w (.slice A l.length c) l) (hr : l.length ≤ 140737488351232)
    (ov : Nat) (oA : Option Addr) (ol : List UInt8) (oc : Nat) (hov : (ov : Int) ≤ 18446744073709551615) (hol : Rd w (.slice oA ol.length oc) ol) (hor : ol.length ≤ 140737488351232) :
    Calls Try.prog 3 #[.agg (ccel tx n h v b (.slice A l.length c)), .agg #[.int .u64 (ov : Int), .slice oA ol.length oc]] w fun e w' => e = .returned (.bool true) ∧ Nx w w' := by
  have HP := Lib.hid (fun w => putPoint_any tx n h ht hn hh w)
  have HRP := Lib.hid (fun w => rputPoint_any tx n h ht hn hh w)
  have HO := Lib.hid (fun w h => putOut_any ov (.slice oA ol.length oc) ol w h (by omega))
  have HRO := Lib.hid (fun w h => rputOut_any ov (.slice oA ol.length oc) ol w hov h hor)
  have HC := Lib.hid (fun w hl => put_coin_any tx n h v b (.slice A l.length c) l w ht hn hh hl (by omega))
  have HRC := Lib.hid (fun w hl => rput_coin_any tx n h v b (.slice A l.length c) l w ht hn hh hvv hl hr)
  have cz := Lib.hid (coinsz tx n h v b (.slice A l.length c) ht)
  have HCP := Lib.hid (ccel_p tx n h v b (.slice A l.length c))
  have HPS := Lib.hid (pointsz tx n h ht)
  obtain ⟨hz3, hzs3⟩ := zero_of_info info_out
  have io := Lib.hid hzs3
  clear hzs3 hz3
  have RC0 := Lib.hid ((Row.new w (ccel tx n h v b (.slice A l.length c)) 31 _ rfl).alloc (.cells #[.int .u64 (ov : Int), .slice oA ol.length oc] 33))
  have RO0 := Lib.hid (Row.new2 w (.cells (ccel tx n h v b (.slice A l.length c)) 31) #[.int .u64 (ov : Int), .slice oA ol.length oc] 33)
  have N0 := Lib.hid (((Nx.refl w).alloc (.cells (ccel tx n h v b (.slice A l.length c)) 31)).alloc (.cells #[.int .u64 (ov : Int), .slice oA ol.length oc] 33))
  have RL := Lib.hid (hl.nx N0.out)
  have ROL := Lib.hid (hol.nx N0.out)
  clear ht hn hh hvv hl hr hov hol hor
  generalize ptL tx n h = PL at *
  generalize outB ov ol = OL at *
  generalize outE ov ol = OE at *
  generalize coinB tx n h v b l = CL at *
  generalize outE v l = CE at *
  have R0 := RC0.out
  have R1 := RO0.out
  clear RC0 RO0
  go_enter Try.func3, Try.ntmps3
  go_wp2_with (first | (refine wpList_load_row rfl 33 (.tmp 3) rfl (w.heap.size + 1) rfl 33 #[.int .u64 (ov : Int), .slice oA ol.length oc] (0, 0) _ R1 Try.underlying33 rfl io.out ?_))
  generalize (w.alloc (.cells (ccel tx n h v b (.slice A l.length c)) 31)).alloc (.cells #[.int .u64 (ov : Int), .slice oA ol.length oc] 33) = W at *
  refine (HO.out _ ROL.out).mono ?_
  rintro e w1 ⟨va, rfl, o1, n1⟩
  have N1 := Lib.hid n1
  have RA1 := Lib.hid o1.rd
  replace R0 := R0.nx n1
  replace R1 := R1.nx n1
  clear n1 o1
  go_wp2_with (first | (refine wpList_load_row rfl 33 (.tmp 3) rfl (w.heap.size + 1) rfl 33 #[.int .u64 (ov : Int), .slice oA ol.length oc] (0, 0) _ R1 Try.underlying33 rfl io.out ?_))
  refine (HRO.out _ (ROL.out.nx N1.out)).mono ?_
  rintro e w2 ⟨vb, rfl, o2, n2⟩
  have N2 := Lib.hid (N1.out.trans n2)
  have RA2 := Lib.hid (RA1.out.nx n2)
  have RB2 := Lib.hid o2.rd
  replace R0 := R0.nx n2
  clear n2 o2 R1 N1 RA1 ROL
  go_wp2_with (first | (refine wpList_load_row rfl 31 (.tmp 2) rfl w.heap.size rfl 31 (ccel tx n h v b (.slice A l.length c)) (0, 0) _ R0 Try.underlying31 rfl cz.out ?_))
  refine (HC.out _ (RL.out.nx N2.out)).mono ?_
  rintro e w3 ⟨vp, rfl, o3, n3⟩
  have N3 := Lib.hid (N2.out.trans n3)
  have RA3 := Lib.hid (RA2.out.nx n3)
  have RB3 := Lib.hid (RB2.out.nx n3)
  have RP3 := Lib.hid o3.rd
  replace R0 := R0.nx n3
  clear n3 o3 RA2 RB2 N2
  go_wp2_with (first | (refine wpList_load_row rfl 31 (.tmp 2) rfl w.heap.size rfl 31 (ccel tx n h v b (.slice A l.length c)) (0, 0) _ R0 Try.underlying31 rfl cz.out ?_))
  refine (HRC.out _ (RL.out.nx N3.out)).mono ?_
  rintro e w4 ⟨vq, rfl, o4, n4⟩
  have N4 := Lib.hid (N3.out.trans n4)
  have RA := Lib.hid (RA3.out.nx n4)
  have RB := Lib.hid (RB3.out.nx n4)
  have RP := Lib.hid (RP3.out.nx n4)
  have RQ := Lib.hid o4.rd
  have RC := R0.nx n4
  clear n4 o4 RA3 RB3 RP3 N3 R0 RL
  go_wp2_with fail
  refine wp_region_nx 31 [[], [0], [1], [], [3], [4, 2], [2, 5, 5], [6, 6], [7], [7], [8, 9, 7, 7], [7, 10], [11, 10], [12], [12], [13, 14, 12], [12, 15], [16, 12], [17], [17], [18, 19, 17, 17], [17, 20], [21, 20], [22], [22], [23, 24, 22], [22, 25], [26, 22], [27, 27], [27, 28], [29, 28, 0, 1, 2, 3, 4, 5, 6, 7, 8, 9, 10, 11, 12, 13, 14, 15, 16, 17, 18, 19, 20, 21, 22, 23, 24, 25, 26, 27, 28, 29]] [some 33, some 34, some 35, some 36, some 37, some 38, some 39, some 40, some 41, some 42, some 43, some 44, some 45, some 46, some 47, some 48, some 49, some 50, some 51, some 52, some 53, some 54, some 55, some 56, some 57, some 58, some 59, some 60, some 61, some 62, some 4]
    [.eq (.pointer (some ⟨w.heap.size, 0, none⟩)), .eq (.agg (pcel tx n h)), .rd (PL), .eq (.pointer (some ⟨w.heap.size, 0, none⟩)), .eq (.agg (pcel tx n h)), .rd (PL), .eq (.bool true), .eq (.bool true), .eq (va), .eq (vb), .eq (.bool true), .eq (.bool true), .eq (.bool true), .eq (.int .i64 OE), .eq (.int .i64 OE), .eq (.bool true), .eq (.bool true), .eq (.bool true), .eq (vp), .eq (vq), .eq (.bool true), .eq (.bool true), .eq (.bool true), .eq (.int .i64 CE), .eq (.int .i64 CE), .eq (.bool true), .eq (.bool true), .eq (.bool true), .eq (.bool true), .eq (.bool true), .eq (.bool true)]
    (by kernel_rfl) (by kernel_rfl) (hord_of (by decide)) (by kernel_rfl) (by decide) (by decide) (htail_of (by decide)) ?_ _ (by rfl) ?_
  · intro x tm wr htm hx i hi hd K hK
    simp only [fillA, List.setIfInBounds_toArray, List.set_cons_zero, List.set_cons_succ] at htm
    subst htm
    have hcs : i = 0 ∨ i = 1 ∨ i = 2 ∨ i = 3 ∨ i = 4 ∨ i = 5 ∨ i = 6 ∨ i = 7 ∨ i = 8 ∨ i = 9 ∨ i = 10 ∨ i = 11 ∨ i = 12 ∨ i = 13 ∨ i = 14 ∨ i = 15 ∨ i = 16 ∨ i = 17 ∨ i = 18 ∨ i = 19 ∨ i = 20 ∨ i = 21 ∨ i = 22 ∨ i = 23 ∨ i = 24 ∨ i = 25 ∨ i = 26 ∨ i = 27 ∨ i = 28 ∨ i = 29 ∨ i = 30 := by omega
    clear hi
    rcases hcs with rfl | rfl | rfl | rfl | rfl | rfl | rfl | rfl | rfl | rfl | rfl | rfl | rfl | rfl | rfl | rfl | rfl | rfl | rfl | rfl | rfl | rfl | rfl | rfl | rfl | rfl | rfl | rfl | rfl | rfl | rfl
    · exact wpOp_of rfl rfl (wp_val_of (some 33) rfl (.pointer (some ⟨w.heap.size, 0, none⟩)) (by kernel_rfl) (hK _ _ rfl (Nx.refl _)))
    · have e0 : x 0 = .pointer (some ⟨w.heap.size, 0, none⟩) := hd 0 (by decide)
      generalize x 0 = y0 at e0 hK ⊢
      subst e0
      exact wpOp_of rfl rfl (wp_load_at (some 34) rfl 27 (.tmp 33) rfl (w.heap.size) 0 rfl (pcel tx n h) _ (fun j v hv => by rw [Nat.zero_add]; exact (RC.nx hx).cell (HCP.out j v hv)) Try.underlying27 rfl HPS.out (hK _ _ rfl (Nx.refl _)))
    · have e1 : x 1 = .agg (pcel tx n h) := hd 1 (by decide)
      generalize x 1 = y1 at e1 hK ⊢
      subst e1
      refine wpOp_of rfl rfl (wp_callp_of (some 35) rfl 14 #[(.agg (pcel tx n h))] (by kernel_rfl) (fun v w' => Rd w' v (PL)) ?_ hK)
      exact (HP.out wr).mono fun _ _ ⟨v, h1, h2, h3⟩ => ⟨v, h1, h2.rd, h3⟩
    · exact wpOp_of rfl rfl (wp_val_of (some 36) rfl (.pointer (some ⟨w.heap.size, 0, none⟩)) (by kernel_rfl) (hK _ _ rfl (Nx.refl _)))
    · have e3 : x 3 = .pointer (some ⟨w.heap.size, 0, none⟩) := hd 3 (by decide)
      generalize x 3 = y3 at e3 hK ⊢
      subst e3
      exact wpOp_of rfl rfl (wp_load_at (some 37) rfl 27 (.tmp 36) rfl (w.heap.size) 0 rfl (pcel tx n h) _ (fun j v hv => by rw [Nat.zero_add]; exact (RC.nx hx).cell (HCP.out j v hv)) Try.underlying27 rfl HPS.out (hK _ _ rfl (Nx.refl _)))
    · have e4 : x 4 = .agg (pcel tx n h) := hd 4 (by decide)
      have r2 : Rd wr (x 2) (PL) := hd 2 (by decide)
      generalize x 4 = y4 at e4 hK ⊢
      subst e4
      refine wpOp_of rfl rfl (wp_callp_of (some 38) rfl 15 #[(.agg (pcel tx n h))] (by kernel_rfl) (fun v w' => Rd w' v (PL)) ?_ hK)
      exact (HRP.out wr).mono fun _ _ ⟨v, h1, h2, h3⟩ => ⟨v, h1, h2.rd, h3⟩
    · have r2 : Rd wr (x 2) (PL) := hd 2 (by decide)
      have r5 : Rd wr (x 5) (PL) := hd 5 (by decide)
      refine wpOp_of rfl rfl (wp_call_of (some 39) rfl 13 #[x 2, x 5] (by kernel_rfl) (.bool true) ?_ (fun w' h => hK _ w' rfl h))
      exact same_yes _ _ PL wr r2 r5
    · have e6 : x 6 = .bool true := hd 6 (by decide)
      generalize x 6 = y6 at e6 hK ⊢
      subst e6
      exact wpOp_of rfl rfl (wp_val_of (some 40) rfl (.bool true) (by kernel_rfl) (hK _ _ rfl (Nx.refl _)))
    · have e7 : x 7 = .bool true := hd 7 (by decide)
      generalize x 7 = y7 at e7 hK ⊢
      subst e7
      exact wpOp_g rfl (by rfl) (wp_val_of (some 41) rfl (va) (by kernel_rfl) (hK _ _ rfl (Nx.refl _)))
    · have e7 : x 7 = .bool true := hd 7 (by decide)
      generalize x 7 = y7 at e7 hK ⊢
      subst e7
      exact wpOp_g rfl (by rfl) (wp_val_of (some 42) rfl (vb) (by kernel_rfl) (hK _ _ rfl (Nx.refl _)))
    · have e8 : x 8 = va := hd 8 (by decide)
      have e9 : x 9 = vb := hd 9 (by decide)
      have e7 : x 7 = .bool true := hd 7 (by decide)
      generalize x 8 = y8 at e8 hK ⊢
      subst e8
      generalize x 9 = y9 at e9 hK ⊢
      subst e9
      generalize x 7 = y7 at e7 hK ⊢
      subst e7
      refine wpOp_g rfl (by rfl) (wp_call_of (some 43) rfl 13 #[y8, y9] (by kernel_rfl) (.bool true) ?_ (fun w' h => hK _ w' rfl h))
      exact same_yes _ _ OL wr (RA.out.nx hx) (RB.out.nx hx)
    · have e7 : x 7 = .bool true := hd 7 (by decide)
      have e10 : x 10 = .bool true := hd 10 (by decide)
      generalize x 7 = y7 at e7 hK ⊢
      subst e7
      generalize x 10 = y10 at e10 hK ⊢
      subst e10
      exact wpOp_of rfl rfl (wp_val_of (some 44) rfl (.bool true) (by kernel_rfl) (hK _ _ rfl (Nx.refl _)))
    · have e11 : x 11 = .bool true := hd 11 (by decide)
      have e10 : x 10 = .bool true := hd 10 (by decide)
      generalize x 11 = y11 at e11 hK ⊢
      subst e11
      generalize x 10 = y10 at e10 hK ⊢
      subst e10
      exact wpOp_of rfl rfl (wp_val_of (some 45) rfl (.bool true) (by kernel_rfl) (hK _ _ rfl (Nx.refl _)))
    · have e12 : x 12 = .bool true := hd 12 (by decide)
      generalize x 12 = y12 at e12 hK ⊢
      subst e12
      exact wpOp_g rfl (by rfl) (wp_val_of (some 46) rfl (.int .i64 OE) (by kernel_rfl) (hK _ _ rfl (Nx.refl _)))
    · have e12 : x 12 = .bool true := hd 12 (by decide)
      generalize x 12 = y12 at e12 hK ⊢
      subst e12
      exact wpOp_g rfl (by rfl) (wp_val_of (some 47) rfl (.int .i64 OE) (by kernel_rfl) (hK _ _ rfl (Nx.refl _)))
    · have e13 : x 13 = .int .i64 OE := hd 13 (by decide)
      have e14 : x 14 = .int .i64 OE := hd 14 (by decide)
      have e12 : x 12 = .bool true := hd 12 (by decide)
      generalize x 13 = y13 at e13 hK ⊢
      subst e13
      generalize x 14 = y14 at e14 hK ⊢
      subst e14
      generalize x 12 = y12 at e12 hK ⊢
      subst e12
      exact wpOp_g rfl (by rfl) (wp_eqi_of (some 48) rfl _ _ _ _ rfl .i64 (OE) rfl rfl (hK _ _ rfl (Nx.refl _)))
    · have e12 : x 12 = .bool true := hd 12 (by decide)
      have e15 : x 15 = .bool true := hd 15 (by decide)
      generalize x 12 = y12 at e12 hK ⊢
      subst e12
      generalize x 15 = y15 at e15 hK ⊢
      subst e15
      exact wpOp_of rfl rfl (wp_val_of (some 49) rfl (.bool true) (by kernel_rfl) (hK _ _ rfl (Nx.refl _)))
    · have e16 : x 16 = .bool true := hd 16 (by decide)
      have e12 : x 12 = .bool true := hd 12 (by decide)
      generalize x 16 = y16 at e16 hK ⊢
      subst e16
      generalize x 12 = y12 at e12 hK ⊢
      subst e12
      exact wpOp_of rfl rfl (wp_val_of (some 50) rfl (.bool true) (by kernel_rfl) (hK _ _ rfl (Nx.refl _)))
    · have e17 : x 17 = .bool true := hd 17 (by decide)
      generalize x 17 = y17 at e17 hK ⊢
      subst e17
      exact wpOp_g rfl (by rfl) (wp_val_of (some 51) rfl (vp) (by kernel_rfl) (hK _ _ rfl (Nx.refl _)))
    · have e17 : x 17 = .bool true := hd 17 (by decide)
      generalize x 17 = y17 at e17 hK ⊢
      subst e17
      exact wpOp_g rfl (by rfl) (wp_val_of (some 52) rfl (vq) (by kernel_rfl) (hK _ _ rfl (Nx.refl _)))
    · have e18 : x 18 = vp := hd 18 (by decide)
      have e19 : x 19 = vq := hd 19 (by decide)
      have e17 : x 17 = .bool true := hd 17 (by decide)
      generalize x 18 = y18 at e18 hK ⊢
      subst e18
      generalize x 19 = y19 at e19 hK ⊢
      subst e19
      generalize x 17 = y17 at e17 hK ⊢
      subst e17
      refine wpOp_g rfl (by rfl) (wp_call_of (some 53) rfl 13 #[y18, y19] (by kernel_rfl) (.bool true) ?_ (fun w' h => hK _ w' rfl h))
      exact same_yes _ _ CL wr (RP.out.nx hx) (RQ.out.nx hx)
    · have e17 : x 17 = .bool true := hd 17 (by decide)
      have e20 : x 20 = .bool true := hd 20 (by decide)
      generalize x 17 = y17 at e17 hK ⊢
      subst e17
      generalize x 20 = y20 at e20 hK ⊢
      subst e20
      exact wpOp_of rfl rfl (wp_val_of (some 54) rfl (.bool true) (by kernel_rfl) (hK _ _ rfl (Nx.refl _)))
    · have e21 : x 21 = .bool true := hd 21 (by decide)
      have e20 : x 20 = .bool true := hd 20 (by decide)
      generalize x 21 = y21 at e21 hK ⊢
      subst e21
      generalize x 20 = y20 at e20 hK ⊢
      subst e20
      exact wpOp_of rfl rfl (wp_val_of (some 55) rfl (.bool true) (by kernel_rfl) (hK _ _ rfl (Nx.refl _)))
    · have e22 : x 22 = .bool true := hd 22 (by decide)
      generalize x 22 = y22 at e22 hK ⊢
      subst e22
      exact wpOp_g rfl (by rfl) (wp_val_of (some 56) rfl (.int .i64 CE) (by kernel_rfl) (hK _ _ rfl (Nx.refl _)))
    · have e22 : x 22 = .bool true := hd 22 (by decide)
      generalize x 22 = y22 at e22 hK ⊢
      subst e22
      exact wpOp_g rfl (by rfl) (wp_val_of (some 57) rfl (.int .i64 CE) (by kernel_rfl) (hK _ _ rfl (Nx.refl _)))
    · have e23 : x 23 = .int .i64 CE := hd 23 (by decide)
      have e24 : x 24 = .int .i64 CE := hd 24 (by decide)
      have e22 : x 22 = .bool true := hd 22 (by decide)
      generalize x 23 = y23 at e23 hK ⊢
      subst e23
      generalize x 24 = y24 at e24 hK ⊢
      subst e24
      generalize x 22 = y22 at e22 hK ⊢
      subst e22
      exact wpOp_g rfl (by rfl) (wp_eqi_of (some 58) rfl _ _ _ _ rfl .i64 (CE) rfl rfl (hK _ _ rfl (Nx.refl _)))
    · have e22 : x 22 = .bool true := hd 22 (by decide)
      have e25 : x 25 = .bool true := hd 25 (by decide)
      generalize x 22 = y22 at e22 hK ⊢
      subst e22
      generalize x 25 = y25 at e25 hK ⊢
      subst e25
      exact wpOp_of rfl rfl (wp_val_of (some 59) rfl (.bool true) (by kernel_rfl) (hK _ _ rfl (Nx.refl _)))
    · have e26 : x 26 = .bool true := hd 26 (by decide)
      have e22 : x 22 = .bool true := hd 22 (by decide)
      generalize x 26 = y26 at e26 hK ⊢
      subst e26
      generalize x 22 = y22 at e22 hK ⊢
      subst e22
      exact wpOp_of rfl rfl (wp_val_of (some 60) rfl (.bool true) (by kernel_rfl) (hK _ _ rfl (Nx.refl _)))
    · have e27 : x 27 = .bool true := hd 27 (by decide)
      generalize x 27 = y27 at e27 hK ⊢
      subst e27
      refine wpOp_g rfl (by rfl) (wp_call_of (some 61) rfl 16 #[] (by kernel_rfl) (.bool true) ?_ (fun w' h => hK _ w' rfl h))
      exact works_any wr
    · have e27 : x 27 = .bool true := hd 27 (by decide)
      have e28 : x 28 = .bool true := hd 28 (by decide)
      generalize x 27 = y27 at e27 hK ⊢
      subst e27
      generalize x 28 = y28 at e28 hK ⊢
      subst e28
      exact wpOp_of rfl rfl (wp_val_of (some 62) rfl (.bool true) (by kernel_rfl) (hK _ _ rfl (Nx.refl _)))
    · have e29 : x 29 = .bool true := hd 29 (by decide)
      generalize x 29 = y29 at e29 hK ⊢
      subst e29
      exact wpOp_of rfl rfl (wp_val_of (some 4) rfl (.bool true) (by kernel_rfl) (hK _ _ rfl (Nx.refl _)))
  · intro x tm wr htm hx hv
    simp only [fillA, List.setIfInBounds_toArray, List.set_cons_zero, List.set_cons_succ] at htm
    subst htm
    have e30 : x 30 = .bool true := hv 30 (by decide)
    rw [e30]
    refine wpList_nil ?_
    go_wp2_with fail
    go_ret
    exact ⟨rfl, (N0.out.trans N4.out).trans hx⟩
end Go.Proofs.Ytniaiglfgknfiaa
