/- THE LAW TxPuts. -/
import Derived.Test.YtnbonmkecmgphaaDoorTx26
import Derived.Test.YtnbonmkecmgphaaDoorTl
import Derived.Test.YtnbonmkecmgphaaDoorEqH
namespace Go.Proofs.YtnbonmkecmgphaaDoor
open Go Go.RowKit
set_option linter.unusedVariables false
set_option linter.unusedSimpArgs false
set_option linter.unusedVariables false
set_option linter.unusedSimpArgs false

theorem wp_eqi_of {P : Program} {o : Oper} {a : Act} {w : World} {K : Act → World → Prop} {Q : Exit → Act → World → Prop} (dst : Option Tmp) (hd : o.dst = dst) (T : TypeId) (x y : Operand) (T' : TypeId) (ho : o.op = .binOp .eql T x y T') (k : IntKind) (z : Int)
    (hx : a.eval x = .int k z) (hy : a.eval y = .int k z) (h : K (a.put dst (.bool true)) w) : o.wp P a w K Q := by
  refine wp_val_of dst hd (.bool true) ?_ h
  unfold execOp
  simp only [ho, hx, hy]
  have e1 : (eqGuard .eql T x y (.int k z) (.int k z)).run P w = .ok () w := by
    simp [eqGuard]
  have e2 : (binOp .eql T (.int k z) (.int k z)).run P w = .ok (.bool true) w := by
    simp [binOp, Op.intCmp]
  simp only [Sem.run_bind, e1, e2, Result.andThen_ok, Sem.run_pure]
theorem wp_eqb_ofT {P : Program} {o : Oper} {a : Act} {w : World} {K : Act → World → Prop} {Q : Exit → Act → World → Prop} (dst : Option Tmp) (hd : o.dst = dst) (T : TypeId) (x y : Operand) (T' : TypeId) (ho : o.op = .binOp .eql T x y T') (z : Bool)
    (hx : a.eval x = .bool z) (hy : a.eval y = .bool z) (heq : ∀ w, (Op.equal T (.bool z) (.bool z)).run P w = .ok true w) (h : K (a.put dst (.bool true)) w) : o.wp P a w K Q := by
  refine wp_val_of dst hd (.bool true) ?_ h
  unfold execOp
  simp only [ho, hx, hy]
  have e1 : (eqGuard .eql T x y (.bool z) (.bool z)).run P w = .ok () w := by
    simp [eqGuard]
  have e2 : (binOp .eql T (.bool z) (.bool z)).run P w = .ok (.bool true) w := by
    simp [binOp, heq]
  simp only [Sem.run_bind, e1, e2, Result.andThen_ok, Sem.run_pure]
theorem eqb_sameT (z : Bool) (w : World) : (Op.equal 4 (.bool z) (.bool z)).run Tryd.prog w = .ok true w := by cases z <;> kernel_rfl
theorem ptT_le (t : Txn) : (ptT t).length ≤ 8000 := by
  unfold ptT
  split
  · rename_i h; exact (mayT_parts h).2.2.2.2
  · simp
set_option maxRecDepth 100000 in
set_option maxHeartbeats 16000000 in
theorem txPuts_law {w : World} (iv ov : Value) (t : Txn) (ht : TxAt w iv ov t) (n : Int) (_ : -9223372036854775808 ≤ n) (_ : n ≤ 9223372036854775807) (x : List UInt8) (k h v : Nat) (b : Bool) (A : Option Addr) (l : List UInt8) (c : Nat) (hx : x.length = 32) (hk : k < 65536) (hh : h < 4294967296) (hvv : (v : Int) ≤ 18446744073709551615) (hl : Rd w (.slice A l.length c) l) (hr : l.length ≤ 140737488351232) (hki : KIs w) :
    Calls Tryd.prog 3 #[.agg #[iv, ov, .int .u32 (t.after : Int)], .int .i64 n, .agg (ccel x k h v b (.slice A l.length c))] w fun e w' => e = .returned (.bool true) ∧ Nx w w' := by
  have HGR := Lib.hid (fun W x => great_any iv ov t W x)
  have HPP := Lib.hid (fun W (x : TxAt W iv ov t) => txput_any iv ov t W x.i x.o x.a x.g)
  have HPR := Lib.hid (fun W (x : TxAt W iv ov t) => rtxput_any iv ov t W x)
  have HID := Lib.hid (fun W (x : TxAt W iv ov t) hk => txid_any iv ov t W x hk)
  have HRI := Lib.hid (fun W (x : TxAt W iv ov t) => rtxid_any iv ov t W x)
  have HDG := Lib.hid (fun W (y : TxAt W iv ov t) hl hki => tdigest_any iv ov t n x k h v b A l c W y hx hk hh hl (by omega) hki)
  have HRD := Lib.hid (fun W (y : TxAt W iv ov t) hl => rdigest_any iv ov t n x k h v b A l c W y hx hk hh hvv hl hr)
  have HM1 := Lib.hid (fun W x => txmay_any iv ov t W x)
  have HM2 := Lib.hid (fun W x => rmay_any iv ov t W x)
  have cz := Lib.hid info_tx
  have hc1 := Lib.hid (coinsz x k h v b (.slice A l.length c) hx)
  have HT := Lib.hid ht
  have HL := Lib.hid hl
  have HKI := Lib.hid hki
  obtain ⟨hz, hzs⟩ := zero_of_info info_hash7
  have HZL : Hid (Z32.length = 32) := Lib.hid Z32_length
  have L1 : Hid ((idH t).length = 32) := Lib.hid (idH_length t)
  have L2 : Hid ((dgH t n x k h v b l).length = 32) := Lib.hid (dgH_length t n x k h v b l)
  have i1 := Lib.hid (hashsz (idH t) L1.out)
  have i1z := Lib.hid (hashsame Z32 (idH t) HZL.out L1.out)
  have i2 := Lib.hid (hashsz (dgH t n x k h v b l) L2.out)
  have i2z := Lib.hid (hashsame Z32 (dgH t n x k h v b l) HZL.out L2.out)
  have EQ1 := Lib.hid (fun w => eq_hash' (idH t) L1.out w)
  have EQ2 := Lib.hid (fun w => eq_hash' (dgH t n x k h v b l) L2.out w)
  obtain ⟨A0, c0, hiv, -⟩ := ht.i.elem
  subst hiv
  obtain ⟨B0, d0, hov, -⟩ := ht.o.elem
  subst hov
  have KT0 := Lib.hid ((Row.new w #[.slice A0 t.ins.length c0, .slice B0 t.outs.length d0, .int .u32 (t.after : Int)] 26 _ rfl).alloc (.cells (ccel x k h v b (.slice A l.length c)) 35))
  have KC0 := Lib.hid (Row.new2 w (.cells #[.slice A0 t.ins.length c0, .slice B0 t.outs.length d0, .int .u32 (t.after : Int)] 26) (ccel x k h v b (.slice A l.length c)) 35)
  have N0 := Lib.hid (((Nx.refl w).alloc (.cells #[.slice A0 t.ins.length c0, .slice B0 t.outs.length d0, .int .u32 (t.after : Int)] 26)).alloc (.cells (ccel x k h v b (.slice A l.length c)) 35))
  clear ht hx hk hh hvv hl hr hki
  generalize ptT t = L at *
  generalize ptE t = PE at *
  generalize idH t = I1 at *
  generalize dgH t n x k h v b l = I2 at *
  generalize dgE t n v l = DE at *
  generalize mayT t = M at *
  have a0 := KT0.out.cell (i := 0) (v := .slice A0 t.ins.length c0) rfl
  have a1 := KT0.out.cell (i := 1) (v := .slice B0 t.outs.length d0) rfl
  have a2 := KT0.out.cell (i := 2) (v := .int .u32 (t.after : Int)) rfl
  go_enter Tryd.func3, Tryd.ntmps3
  go_wp2_with fail
  refine (HGR.out _ (HT.out.nx N0.out)).mono ?_
  rintro e u0 ⟨B, rfl, n0⟩
  have KT := Lib.hid (KT0.out.nx n0)
  have KC := Lib.hid (KC0.out.nx n0)
  have NA := Lib.hid (N0.out.trans n0)
  clear n0 a0 a1 a2 N0 KT0 KC0 HGR
  cases B
  case true =>
    go_wp2_with fail
    refine (txwork_any _).mono ?_
    rintro e w2 ⟨rfl, n2⟩
    have N2 := Lib.hid (NA.out.trans n2)
    clear n2 NA
    go_wp2_with fail
    go_ret
    exact ⟨rfl, N2.out⟩
  case false =>
    have a0 := KT.out.cell (i := 0) (v := .slice A0 t.ins.length c0) rfl
    have a1 := KT.out.cell (i := 1) (v := .slice B0 t.outs.length d0) rfl
    have a2 := KT.out.cell (i := 2) (v := .int .u32 (t.after : Int)) rfl
    go_wp2_with fail
    refine (HPP.out _ (HT.out.nx NA.out)).mono ?_
    rintro e u1 ⟨v1, rfl, o1, n1⟩
    have RA := Lib.hid o1.rd
    obtain ⟨A5, c5, rfl, -⟩ := o1.rd
    replace KT := Lib.hid (KT.out.nx n1)
    replace KC := Lib.hid (KC.out.nx n1)
    have N1 := Lib.hid (NA.out.trans n1)
    clear n1 o1 a0 a1 a2 NA HPP
    have a0 := KT.out.cell (i := 0) (v := .slice A0 t.ins.length c0) rfl
    have a1 := KT.out.cell (i := 1) (v := .slice B0 t.outs.length d0) rfl
    have a2 := KT.out.cell (i := 2) (v := .int .u32 (t.after : Int)) rfl
    go_wp2_with fail
    refine (HPR.out _ (HT.out.nx N1.out)).mono ?_
    rintro e u2 ⟨v2, rfl, o2, n2⟩
    have RB := Lib.hid o2.rd
    obtain ⟨A6, c6, rfl, -⟩ := o2.rd
    replace KT := Lib.hid (KT.out.nx n2)
    replace KC := Lib.hid (KC.out.nx n2)
    replace RA := Lib.hid (RA.out.nx n2)
    have N2 := Lib.hid (N1.out.trans n2)
    clear n2 o2 a0 a1 a2 N1 HPR
    have a0 := KT.out.cell (i := 0) (v := .slice A0 t.ins.length c0) rfl
    have a1 := KT.out.cell (i := 1) (v := .slice B0 t.outs.length d0) rfl
    have a2 := KT.out.cell (i := 2) (v := .int .u32 (t.after : Int)) rfl
    go_wp2_with fail
    refine (HID.out _ (HT.out.nx N2.out) (HKI.out.nx N2.out)).mono ?_
    rintro e u3 ⟨rfl, n3⟩
    clear a0 a1 a2 HID
    have Z3 := Row.new u3 (hcel Z32) 28 _ rfl
    have S3 : Nx u3 ((u3.alloc (.cells (hcel Z32) 28)).setRow u3.heap.size (hcel I1)) := ((Nx.refl u3).alloc _).setRow _ (Nat.le_refl _)
    have RX3 := Lib.hid (Z3.setRow (hcel I1))
    have m3 := n3.trans S3
    have N3 := Lib.hid (N2.out.trans m3)
    replace KT := Lib.hid (KT.out.nx m3)
    replace KC := Lib.hid (KC.out.nx m3)
    replace RA := Lib.hid (RA.out.nx m3)
    replace RB := Lib.hid (RB.out.nx m3)
    have a0 := KT.out.cell (i := 0) (v := .slice A0 t.ins.length c0) rfl
    have a1 := KT.out.cell (i := 1) (v := .slice B0 t.outs.length d0) rfl
    have a2 := KT.out.cell (i := 2) (v := .int .u32 (t.after : Int)) rfl
    have C3 := KC.out
    go_wp2_with (first | (refine wpList_store_row rfl 28 (.tmp 11) (.tmp 35) rfl u3.heap.size (hcel I1) rfl rfl 28 (hcel Z32) Z3 i1.out i1z.out (hcel_one _) ?_))
    clear a0 a1 a2 Z3 C3 n3 m3 N2
    generalize (u3.alloc (.cells (hcel Z32) 28)).setRow u3.heap.size (hcel I1) = W3 at *
    clear S3
    refine (HRI.out _ (HT.out.nx N3.out)).mono ?_
    rintro e u4 ⟨rfl, n4⟩
    clear HRI
    have Z4 := Row.new u4 (hcel Z32) 28 _ rfl
    have S4 : Nx u4 ((u4.alloc (.cells (hcel Z32) 28)).setRow u4.heap.size (hcel I1)) := ((Nx.refl u4).alloc _).setRow _ (Nat.le_refl _)
    have RX4 := Lib.hid (Z4.setRow (hcel I1))
    have m4 := n4.trans S4
    have N4 := Lib.hid (N3.out.trans m4)
    replace KT := Lib.hid (KT.out.nx m4)
    replace KC := Lib.hid (KC.out.nx m4)
    replace RA := Lib.hid (RA.out.nx m4)
    replace RB := Lib.hid (RB.out.nx m4)
    replace RX3 := Lib.hid (RX3.out.nx m4)
    have a0 := KT.out.cell (i := 0) (v := .slice A0 t.ins.length c0) rfl
    have a1 := KT.out.cell (i := 1) (v := .slice B0 t.outs.length d0) rfl
    have a2 := KT.out.cell (i := 2) (v := .int .u32 (t.after : Int)) rfl
    have C4 := KC.out
    go_wp2_with (first | (refine wpList_store_row rfl 28 (.tmp 13) (.tmp 40) rfl u4.heap.size (hcel I1) rfl rfl 28 (hcel Z32) Z4 i1.out i1z.out (hcel_one _) ?_) | (refine wpList_load_row rfl 35 (.tmp 5) rfl (w.heap.size + 1) rfl 35 (ccel x k h v b (.slice A l.length c)) (0, 0) _ C4 Tryd.underlying35 rfl hc1.out ?_))
    clear a0 a1 a2 Z4 C4 n4 m4 N3
    generalize (u4.alloc (.cells (hcel Z32) 28)).setRow u4.heap.size (hcel I1) = W4 at *
    clear S4
    refine (HDG.out _ (HT.out.nx N4.out) (HL.out.nx N4.out) (HKI.out.nx N4.out)).mono ?_
    rintro e u5 ⟨rfl, n5⟩
    clear HDG
    have Z5 := Row.new u5 (hcel Z32) 28 _ rfl
    have S5 : Nx u5 ((u5.alloc (.cells (hcel Z32) 28)).setRow u5.heap.size (hcel I2)) := ((Nx.refl u5).alloc _).setRow _ (Nat.le_refl _)
    have RX5 := Lib.hid (Z5.setRow (hcel I2))
    have m5 := n5.trans S5
    have N5 := Lib.hid (N4.out.trans m5)
    replace KT := Lib.hid (KT.out.nx m5)
    replace KC := Lib.hid (KC.out.nx m5)
    replace RA := Lib.hid (RA.out.nx m5)
    replace RB := Lib.hid (RB.out.nx m5)
    replace RX3 := Lib.hid (RX3.out.nx m5)
    replace RX4 := Lib.hid (RX4.out.nx m5)
    have a0 := KT.out.cell (i := 0) (v := .slice A0 t.ins.length c0) rfl
    have a1 := KT.out.cell (i := 1) (v := .slice B0 t.outs.length d0) rfl
    have a2 := KT.out.cell (i := 2) (v := .int .u32 (t.after : Int)) rfl
    have C5 := KC.out
    go_wp2_with (first | (refine wpList_store_row rfl 28 (.tmp 15) (.tmp 47) rfl u5.heap.size (hcel I2) rfl rfl 28 (hcel Z32) Z5 i2.out i2z.out (hcel_one _) ?_) | (refine wpList_load_row rfl 35 (.tmp 5) rfl (w.heap.size + 1) rfl 35 (ccel x k h v b (.slice A l.length c)) (0, 0) _ C5 Tryd.underlying35 rfl hc1.out ?_))
    clear a0 a1 a2 Z5 C5 n5 m5 N4
    generalize (u5.alloc (.cells (hcel Z32) 28)).setRow u5.heap.size (hcel I2) = W5 at *
    clear S5
    refine (HRD.out _ (HT.out.nx N5.out) (HL.out.nx N5.out)).mono ?_
    rintro e u6 ⟨rfl, n6⟩
    clear HRD
    have Z6 := Row.new u6 (hcel Z32) 28 _ rfl
    have S6 : Nx u6 ((u6.alloc (.cells (hcel Z32) 28)).setRow u6.heap.size (hcel I2)) := ((Nx.refl u6).alloc _).setRow _ (Nat.le_refl _)
    have RX6 := Lib.hid (Z6.setRow (hcel I2))
    have m6 := n6.trans S6
    have N6 := Lib.hid (N5.out.trans m6)
    replace KT := Lib.hid (KT.out.nx m6)
    replace KC := Lib.hid (KC.out.nx m6)
    replace RA := Lib.hid (RA.out.nx m6)
    replace RB := Lib.hid (RB.out.nx m6)
    replace RX3 := Lib.hid (RX3.out.nx m6)
    replace RX4 := Lib.hid (RX4.out.nx m6)
    replace RX5 := Lib.hid (RX5.out.nx m6)
    have a0 := KT.out.cell (i := 0) (v := .slice A0 t.ins.length c0) rfl
    have a1 := KT.out.cell (i := 1) (v := .slice B0 t.outs.length d0) rfl
    have a2 := KT.out.cell (i := 2) (v := .int .u32 (t.after : Int)) rfl
    have C6 := KC.out
    go_wp2_with (first | (refine wpList_store_row rfl 28 (.tmp 17) (.tmp 54) rfl u6.heap.size (hcel I2) rfl rfl 28 (hcel Z32) Z6 i2.out i2z.out (hcel_one _) ?_))
    clear a0 a1 a2 Z6 C6 n6 m6 N5
    generalize (u6.alloc (.cells (hcel Z32) 28)).setRow u6.heap.size (hcel I2) = W6 at *
    clear S6
    have R3 := RX3.out
    have R4 := RX4.out
    have R5 := RX5.out
    have R6 := RX6.out
    have NW := N6
    replace KT := KT.out
    clear RX3 RX4 RX5 RX6 KC N6
    refine wp_region_nx 39 [[], [], [0, 1], [2, 2], [3], [3], [4, 5, 3], [3, 6], [7, 3], [8], [8], [9, 10, 8], [8, 11], [12, 8], [13], [13], [14, 15, 13], [13, 16], [17, 13], [18], [18], [19, 20, 18], [18, 21], [22, 18], [23], [23], [24, 25, 23], [23, 26], [27, 23], [28], [29, 28, 28], [28], [31, 30, 28], [30, 32, 28], [28, 33], [34, 32], [35, 35], [35, 36], [37, 36, 0, 1, 2, 3, 4, 5, 6, 7, 8, 9, 10, 11, 12, 13, 14, 15, 16, 17, 18, 19, 20, 21, 22, 23, 24, 25, 26, 27, 28, 29, 30, 31, 32, 33, 34, 35, 36, 37]] [some 56, some 57, some 58, some 59, some 60, some 61, some 62, some 63, some 64, some 65, some 66, some 67, some 68, some 69, some 70, some 71, some 72, some 73, some 74, some 75, some 76, some 77, some 78, some 79, some 80, some 81, some 82, some 83, some 84, some 85, some 86, some 87, some 88, some 89, some 90, some 91, some 92, some 93, some 6]
      [.eq (.slice A5 L.length c5), .eq (.slice A6 L.length c6), .eq (.bool true), .eq (.bool true), .eq (.int .i64 PE), .eq (.int .i64 PE), .eq (.bool true), .eq (.bool true), .eq (.bool true), .eq (.agg (hcel I1)), .eq (.agg (hcel I1)), .eq (.bool true), .eq (.bool true), .eq (.bool true), .eq (.int .i64 PE), .eq (.int .i64 PE), .eq (.bool true), .eq (.bool true), .eq (.bool true), .eq (.agg (hcel I2)), .eq (.agg (hcel I2)), .eq (.bool true), .eq (.bool true), .eq (.bool true), .eq (.int .i64 DE), .eq (.int .i64 DE), .eq (.bool true), .eq (.bool true), .eq (.bool true), .eq (.agg #[.slice A0 t.ins.length c0, .slice B0 t.outs.length d0, .int .u32 (t.after : Int)]), .eq (.bool M), .eq (.agg #[.slice A0 t.ins.length c0, .slice B0 t.outs.length d0, .int .u32 (t.after : Int)]), .eq (.bool M), .eq (.bool true), .eq (.bool true), .eq (.bool true), .eq (.bool true), .eq (.bool true), .eq (.bool true)]
      (by kernel_rfl) (by kernel_rfl) (hord_of (by decide)) (by kernel_rfl) (by decide) (by decide) (htail_of (by decide)) ?_ _ (by rfl) ?_
    · intro x tm wr htm hx i hi hd K hK
      simp only [fillA, List.setIfInBounds_toArray, List.set_cons_zero, List.set_cons_succ] at htm
      subst htm
      have hcs : i = 0 ∨ i = 1 ∨ i = 2 ∨ i = 3 ∨ i = 4 ∨ i = 5 ∨ i = 6 ∨ i = 7 ∨ i = 8 ∨ i = 9 ∨ i = 10 ∨ i = 11 ∨ i = 12 ∨ i = 13 ∨ i = 14 ∨ i = 15 ∨ i = 16 ∨ i = 17 ∨ i = 18 ∨ i = 19 ∨ i = 20 ∨ i = 21 ∨ i = 22 ∨ i = 23 ∨ i = 24 ∨ i = 25 ∨ i = 26 ∨ i = 27 ∨ i = 28 ∨ i = 29 ∨ i = 30 ∨ i = 31 ∨ i = 32 ∨ i = 33 ∨ i = 34 ∨ i = 35 ∨ i = 36 ∨ i = 37 ∨ i = 38 := by omega
      clear hi
      rcases hcs with rfl | rfl | rfl | rfl | rfl | rfl | rfl | rfl | rfl | rfl | rfl | rfl | rfl | rfl | rfl | rfl | rfl | rfl | rfl | rfl | rfl | rfl | rfl | rfl | rfl | rfl | rfl | rfl | rfl | rfl | rfl | rfl | rfl | rfl | rfl | rfl | rfl | rfl | rfl
      · exact wpOp_of rfl rfl (wp_val_of (some 56) rfl (.slice A5 L.length c5) (by kernel_rfl) (hK _ _ rfl (Nx.refl _)))
      · exact wpOp_of rfl rfl (wp_val_of (some 57) rfl (.slice A6 L.length c6) (by kernel_rfl) (hK _ _ rfl (Nx.refl _)))
      · have e0 : x 0 = .slice A5 L.length c5 := hd 0 (by decide)
        have e1 : x 1 = .slice A6 L.length c6 := hd 1 (by decide)
        generalize x 0 = y0 at e0 hK ⊢
        subst e0
        generalize x 1 = y1 at e1 hK ⊢
        subst e1
        refine wpOp_of rfl rfl (wp_call_of (some 58) rfl 17 #[(.slice A5 L.length c5), (.slice A6 L.length c6)] (by kernel_rfl) (.bool true) ?_ (fun w' h => hK _ w' rfl h))
        exact same_yes _ _ L wr (RA.out.nx hx) (RB.out.nx hx)
      · have e2 : x 2 = .bool true := hd 2 (by decide)
        generalize x 2 = y2 at e2 hK ⊢
        subst e2
        exact wpOp_of rfl rfl (wp_val_of (some 59) rfl (.bool true) (by kernel_rfl) (hK _ _ rfl (Nx.refl _)))
      · have e3 : x 3 = .bool true := hd 3 (by decide)
        generalize x 3 = y3 at e3 hK ⊢
        subst e3
        exact wpOp_g rfl (by rfl) (wp_val_of (some 60) rfl (.int .i64 PE) (by kernel_rfl) (hK _ _ rfl (Nx.refl _)))
      · have e3 : x 3 = .bool true := hd 3 (by decide)
        generalize x 3 = y3 at e3 hK ⊢
        subst e3
        exact wpOp_g rfl (by rfl) (wp_val_of (some 61) rfl (.int .i64 PE) (by kernel_rfl) (hK _ _ rfl (Nx.refl _)))
      · have e4 : x 4 = .int .i64 PE := hd 4 (by decide)
        have e5 : x 5 = .int .i64 PE := hd 5 (by decide)
        have e3 : x 3 = .bool true := hd 3 (by decide)
        generalize x 4 = y4 at e4 hK ⊢
        subst e4
        generalize x 5 = y5 at e5 hK ⊢
        subst e5
        generalize x 3 = y3 at e3 hK ⊢
        subst e3
        exact wpOp_g rfl (by rfl) (wp_eqi_of (some 62) rfl _ _ _ _ rfl .i64 (PE) rfl rfl (hK _ _ rfl (Nx.refl _)))
      · have e3 : x 3 = .bool true := hd 3 (by decide)
        have e6 : x 6 = .bool true := hd 6 (by decide)
        generalize x 3 = y3 at e3 hK ⊢
        subst e3
        generalize x 6 = y6 at e6 hK ⊢
        subst e6
        exact wpOp_of rfl rfl (wp_val_of (some 63) rfl (.bool true) (by kernel_rfl) (hK _ _ rfl (Nx.refl _)))
      · have e7 : x 7 = .bool true := hd 7 (by decide)
        have e3 : x 3 = .bool true := hd 3 (by decide)
        generalize x 7 = y7 at e7 hK ⊢
        subst e7
        generalize x 3 = y3 at e3 hK ⊢
        subst e3
        exact wpOp_of rfl rfl (wp_val_of (some 64) rfl (.bool true) (by kernel_rfl) (hK _ _ rfl (Nx.refl _)))
      · have e8 : x 8 = .bool true := hd 8 (by decide)
        generalize x 8 = y8 at e8 hK ⊢
        subst e8
        exact wpOp_g rfl (by rfl) (wp_load_row_of (some 65) rfl 28 (.tmp 11) rfl (u3.heap.size) rfl 28 (hcel I1) _ (R3.nx hx) Tryd.underlying28 rfl i1.out (hK _ _ rfl (Nx.refl _)))
      · have e8 : x 8 = .bool true := hd 8 (by decide)
        generalize x 8 = y8 at e8 hK ⊢
        subst e8
        exact wpOp_g rfl (by rfl) (wp_load_row_of (some 66) rfl 28 (.tmp 13) rfl (u4.heap.size) rfl 28 (hcel I1) _ (R4.nx hx) Tryd.underlying28 rfl i1.out (hK _ _ rfl (Nx.refl _)))
      · have e9 : x 9 = .agg (hcel I1) := hd 9 (by decide)
        have e10 : x 10 = .agg (hcel I1) := hd 10 (by decide)
        have e8 : x 8 = .bool true := hd 8 (by decide)
        generalize x 9 = y9 at e9 hK ⊢
        subst e9
        generalize x 10 = y10 at e10 hK ⊢
        subst e10
        generalize x 8 = y8 at e8 hK ⊢
        subst e8
        exact wpOp_g rfl (by rfl) (wp_eql_of (some 67) rfl 28 _ _ _ rfl (hcel I1) (hcel I1) rfl rfl (by kernel_rfl) true (EQ1.out wr) (hK _ _ rfl (Nx.refl _)))
      · have e8 : x 8 = .bool true := hd 8 (by decide)
        have e11 : x 11 = .bool true := hd 11 (by decide)
        generalize x 8 = y8 at e8 hK ⊢
        subst e8
        generalize x 11 = y11 at e11 hK ⊢
        subst e11
        exact wpOp_of rfl rfl (wp_val_of (some 68) rfl (.bool true) (by kernel_rfl) (hK _ _ rfl (Nx.refl _)))
      · have e12 : x 12 = .bool true := hd 12 (by decide)
        have e8 : x 8 = .bool true := hd 8 (by decide)
        generalize x 12 = y12 at e12 hK ⊢
        subst e12
        generalize x 8 = y8 at e8 hK ⊢
        subst e8
        exact wpOp_of rfl rfl (wp_val_of (some 69) rfl (.bool true) (by kernel_rfl) (hK _ _ rfl (Nx.refl _)))
      · have e13 : x 13 = .bool true := hd 13 (by decide)
        generalize x 13 = y13 at e13 hK ⊢
        subst e13
        exact wpOp_g rfl (by rfl) (wp_val_of (some 70) rfl (.int .i64 PE) (by kernel_rfl) (hK _ _ rfl (Nx.refl _)))
      · have e13 : x 13 = .bool true := hd 13 (by decide)
        generalize x 13 = y13 at e13 hK ⊢
        subst e13
        exact wpOp_g rfl (by rfl) (wp_val_of (some 71) rfl (.int .i64 PE) (by kernel_rfl) (hK _ _ rfl (Nx.refl _)))
      · have e14 : x 14 = .int .i64 PE := hd 14 (by decide)
        have e15 : x 15 = .int .i64 PE := hd 15 (by decide)
        have e13 : x 13 = .bool true := hd 13 (by decide)
        generalize x 14 = y14 at e14 hK ⊢
        subst e14
        generalize x 15 = y15 at e15 hK ⊢
        subst e15
        generalize x 13 = y13 at e13 hK ⊢
        subst e13
        exact wpOp_g rfl (by rfl) (wp_eqi_of (some 72) rfl _ _ _ _ rfl .i64 (PE) rfl rfl (hK _ _ rfl (Nx.refl _)))
      · have e13 : x 13 = .bool true := hd 13 (by decide)
        have e16 : x 16 = .bool true := hd 16 (by decide)
        generalize x 13 = y13 at e13 hK ⊢
        subst e13
        generalize x 16 = y16 at e16 hK ⊢
        subst e16
        exact wpOp_of rfl rfl (wp_val_of (some 73) rfl (.bool true) (by kernel_rfl) (hK _ _ rfl (Nx.refl _)))
      · have e17 : x 17 = .bool true := hd 17 (by decide)
        have e13 : x 13 = .bool true := hd 13 (by decide)
        generalize x 17 = y17 at e17 hK ⊢
        subst e17
        generalize x 13 = y13 at e13 hK ⊢
        subst e13
        exact wpOp_of rfl rfl (wp_val_of (some 74) rfl (.bool true) (by kernel_rfl) (hK _ _ rfl (Nx.refl _)))
      · have e18 : x 18 = .bool true := hd 18 (by decide)
        generalize x 18 = y18 at e18 hK ⊢
        subst e18
        exact wpOp_g rfl (by rfl) (wp_load_row_of (some 75) rfl 28 (.tmp 15) rfl (u5.heap.size) rfl 28 (hcel I2) _ (R5.nx hx) Tryd.underlying28 rfl i2.out (hK _ _ rfl (Nx.refl _)))
      · have e18 : x 18 = .bool true := hd 18 (by decide)
        generalize x 18 = y18 at e18 hK ⊢
        subst e18
        exact wpOp_g rfl (by rfl) (wp_load_row_of (some 76) rfl 28 (.tmp 17) rfl (u6.heap.size) rfl 28 (hcel I2) _ (R6.nx hx) Tryd.underlying28 rfl i2.out (hK _ _ rfl (Nx.refl _)))
      · have e19 : x 19 = .agg (hcel I2) := hd 19 (by decide)
        have e20 : x 20 = .agg (hcel I2) := hd 20 (by decide)
        have e18 : x 18 = .bool true := hd 18 (by decide)
        generalize x 19 = y19 at e19 hK ⊢
        subst e19
        generalize x 20 = y20 at e20 hK ⊢
        subst e20
        generalize x 18 = y18 at e18 hK ⊢
        subst e18
        exact wpOp_g rfl (by rfl) (wp_eql_of (some 77) rfl 28 _ _ _ rfl (hcel I2) (hcel I2) rfl rfl (by kernel_rfl) true (EQ2.out wr) (hK _ _ rfl (Nx.refl _)))
      · have e18 : x 18 = .bool true := hd 18 (by decide)
        have e21 : x 21 = .bool true := hd 21 (by decide)
        generalize x 18 = y18 at e18 hK ⊢
        subst e18
        generalize x 21 = y21 at e21 hK ⊢
        subst e21
        exact wpOp_of rfl rfl (wp_val_of (some 78) rfl (.bool true) (by kernel_rfl) (hK _ _ rfl (Nx.refl _)))
      · have e22 : x 22 = .bool true := hd 22 (by decide)
        have e18 : x 18 = .bool true := hd 18 (by decide)
        generalize x 22 = y22 at e22 hK ⊢
        subst e22
        generalize x 18 = y18 at e18 hK ⊢
        subst e18
        exact wpOp_of rfl rfl (wp_val_of (some 79) rfl (.bool true) (by kernel_rfl) (hK _ _ rfl (Nx.refl _)))
      · have e23 : x 23 = .bool true := hd 23 (by decide)
        generalize x 23 = y23 at e23 hK ⊢
        subst e23
        exact wpOp_g rfl (by rfl) (wp_val_of (some 80) rfl (.int .i64 DE) (by kernel_rfl) (hK _ _ rfl (Nx.refl _)))
      · have e23 : x 23 = .bool true := hd 23 (by decide)
        generalize x 23 = y23 at e23 hK ⊢
        subst e23
        exact wpOp_g rfl (by rfl) (wp_val_of (some 81) rfl (.int .i64 DE) (by kernel_rfl) (hK _ _ rfl (Nx.refl _)))
      · have e24 : x 24 = .int .i64 DE := hd 24 (by decide)
        have e25 : x 25 = .int .i64 DE := hd 25 (by decide)
        have e23 : x 23 = .bool true := hd 23 (by decide)
        generalize x 24 = y24 at e24 hK ⊢
        subst e24
        generalize x 25 = y25 at e25 hK ⊢
        subst e25
        generalize x 23 = y23 at e23 hK ⊢
        subst e23
        exact wpOp_g rfl (by rfl) (wp_eqi_of (some 82) rfl _ _ _ _ rfl .i64 (DE) rfl rfl (hK _ _ rfl (Nx.refl _)))
      · have e23 : x 23 = .bool true := hd 23 (by decide)
        have e26 : x 26 = .bool true := hd 26 (by decide)
        generalize x 23 = y23 at e23 hK ⊢
        subst e23
        generalize x 26 = y26 at e26 hK ⊢
        subst e26
        exact wpOp_of rfl rfl (wp_val_of (some 83) rfl (.bool true) (by kernel_rfl) (hK _ _ rfl (Nx.refl _)))
      · have e27 : x 27 = .bool true := hd 27 (by decide)
        have e23 : x 23 = .bool true := hd 23 (by decide)
        generalize x 27 = y27 at e27 hK ⊢
        subst e27
        generalize x 23 = y23 at e23 hK ⊢
        subst e23
        exact wpOp_of rfl rfl (wp_val_of (some 84) rfl (.bool true) (by kernel_rfl) (hK _ _ rfl (Nx.refl _)))
      · have e28 : x 28 = .bool true := hd 28 (by decide)
        generalize x 28 = y28 at e28 hK ⊢
        subst e28
        exact wpOp_g rfl (by rfl) (wp_load_row_of (some 85) rfl 26 (.tmp 3) rfl (w.heap.size) rfl 26 (#[.slice A0 t.ins.length c0, .slice B0 t.outs.length d0, .int .u32 (t.after : Int)]) _ (KT.nx hx) Tryd.underlying26 rfl cz.out (hK _ _ rfl (Nx.refl _)))
      · have e29 : x 29 = .agg #[.slice A0 t.ins.length c0, .slice B0 t.outs.length d0, .int .u32 (t.after : Int)] := hd 29 (by decide)
        have e28 : x 28 = .bool true := hd 28 (by decide)
        generalize x 29 = y29 at e29 hK ⊢
        subst e29
        generalize x 28 = y28 at e28 hK ⊢
        subst e28
        refine wpOp_g rfl (by rfl) (wp_call_of (some 86) rfl 18 #[(.agg #[.slice A0 t.ins.length c0, .slice B0 t.outs.length d0, .int .u32 (t.after : Int)])] (by kernel_rfl) (.bool M) ?_ (fun w' h => hK _ w' rfl h))
        exact HM1.out wr (HT.out.nx (NW.out.trans hx))
      · have e28 : x 28 = .bool true := hd 28 (by decide)
        generalize x 28 = y28 at e28 hK ⊢
        subst e28
        exact wpOp_g rfl (by rfl) (wp_load_row_of (some 87) rfl 26 (.tmp 3) rfl (w.heap.size) rfl 26 (#[.slice A0 t.ins.length c0, .slice B0 t.outs.length d0, .int .u32 (t.after : Int)]) _ (KT.nx hx) Tryd.underlying26 rfl cz.out (hK _ _ rfl (Nx.refl _)))
      · have e31 : x 31 = .agg #[.slice A0 t.ins.length c0, .slice B0 t.outs.length d0, .int .u32 (t.after : Int)] := hd 31 (by decide)
        have e30 : x 30 = .bool M := hd 30 (by decide)
        have e28 : x 28 = .bool true := hd 28 (by decide)
        generalize x 31 = y31 at e31 hK ⊢
        subst e31
        generalize x 30 = y30 at e30 hK ⊢
        subst e30
        generalize x 28 = y28 at e28 hK ⊢
        subst e28
        refine wpOp_g rfl (by rfl) (wp_call_of (some 88) rfl 19 #[(.agg #[.slice A0 t.ins.length c0, .slice B0 t.outs.length d0, .int .u32 (t.after : Int)])] (by kernel_rfl) (.bool M) ?_ (fun w' h => hK _ w' rfl h))
        exact HM2.out wr (HT.out.nx (NW.out.trans hx))
      · have e30 : x 30 = .bool M := hd 30 (by decide)
        have e32 : x 32 = .bool M := hd 32 (by decide)
        have e28 : x 28 = .bool true := hd 28 (by decide)
        generalize x 30 = y30 at e30 hK ⊢
        subst e30
        generalize x 32 = y32 at e32 hK ⊢
        subst e32
        generalize x 28 = y28 at e28 hK ⊢
        subst e28
        exact wpOp_g rfl (by rfl) (wp_eqb_ofT (some 89) rfl _ _ _ _ rfl (M) rfl rfl (eqb_sameT (M)) (hK _ _ rfl (Nx.refl _)))
      · have e28 : x 28 = .bool true := hd 28 (by decide)
        have e33 : x 33 = .bool true := hd 33 (by decide)
        generalize x 28 = y28 at e28 hK ⊢
        subst e28
        generalize x 33 = y33 at e33 hK ⊢
        subst e33
        exact wpOp_of rfl rfl (wp_val_of (some 90) rfl (.bool true) (by kernel_rfl) (hK _ _ rfl (Nx.refl _)))
      · have e34 : x 34 = .bool true := hd 34 (by decide)
        have e32 : x 32 = .bool M := hd 32 (by decide)
        generalize x 34 = y34 at e34 hK ⊢
        subst e34
        generalize x 32 = y32 at e32 hK ⊢
        subst e32
        exact wpOp_of rfl rfl (wp_val_of (some 91) rfl (.bool true) (by kernel_rfl) (hK _ _ rfl (Nx.refl _)))
      · have e35 : x 35 = .bool true := hd 35 (by decide)
        generalize x 35 = y35 at e35 hK ⊢
        subst e35
        refine wpOp_g rfl (by rfl) (wp_call_of (some 92) rfl 10 #[] (by kernel_rfl) (.bool true) ?_ (fun w' h => hK _ w' rfl h))
        exact txwork_any wr
      · have e35 : x 35 = .bool true := hd 35 (by decide)
        have e36 : x 36 = .bool true := hd 36 (by decide)
        generalize x 35 = y35 at e35 hK ⊢
        subst e35
        generalize x 36 = y36 at e36 hK ⊢
        subst e36
        exact wpOp_of rfl rfl (wp_val_of (some 93) rfl (.bool true) (by kernel_rfl) (hK _ _ rfl (Nx.refl _)))
      · have e37 : x 37 = .bool true := hd 37 (by decide)
        generalize x 37 = y37 at e37 hK ⊢
        subst e37
        exact wpOp_of rfl rfl (wp_val_of (some 6) rfl (.bool true) (by kernel_rfl) (hK _ _ rfl (Nx.refl _)))
    · intro x tm wr htm hx hv
      simp only [fillA, List.setIfInBounds_toArray, List.set_cons_zero, List.set_cons_succ] at htm
      subst htm
      have e38 : x 38 = .bool true := hv 38 (by decide)
      rw [e38]
      refine wpList_nil ?_
      go_wp2_with fail
      go_ret
      exact ⟨rfl, NW.out.trans hx⟩
end Go.Proofs.YtnbonmkecmgphaaDoor
