/- THE LAW BlockPuts. -/
import Derived.Test.YtejeekbpeinioaaGreatDoorBkW
import Derived.Test.YtejeekbpeinioaaGreatDoorBkR7
import Derived.Test.YtejeekbpeinioaaGreatDoorBk9
import Derived.Test.YtejeekbpeinioaaGreatDoorBkG
namespace Go.Proofs.YtejeekbpeinioaaGreatDoor
open Go Go.RowKit
set_option linter.unusedVariables false
set_option linter.unusedSimpArgs false
set_option linter.unusedVariables false
set_option linter.unusedSimpArgs false

theorem wp_eqi_ofB {P : Program} {o : Oper} {a : Act} {w : World} {K : Act → World → Prop} {Q : Exit → Act → World → Prop} (dst : Option Tmp) (hd : o.dst = dst) (T : TypeId) (x y : Operand) (T' : TypeId) (ho : o.op = .binOp .eql T x y T') (k : IntKind) (z : Int)
    (hx : a.eval x = .int k z) (hy : a.eval y = .int k z) (h : K (a.put dst (.bool true)) w) : o.wp P a w K Q := by
  refine wp_val_of dst hd (.bool true) ?_ h
  unfold execOp
  simp only [ho, hx, hy]
  have e1 : (eqGuard .eql T x y (.int k z) (.int k z)).run P w = .ok () w := by
    simp [eqGuard]
  have e2 : (binOp .eql T (.int k z) (.int k z)).run P w = .ok (.bool true) w := by
    simp [binOp, Op.intCmp]
  simp only [Sem.run_bind, e1, e2, Result.andThen_ok, Sem.run_pure]
theorem wp_eqb_ofB {P : Program} {o : Oper} {a : Act} {w : World} {K : Act → World → Prop} {Q : Exit → Act → World → Prop} (dst : Option Tmp) (hd : o.dst = dst) (T : TypeId) (x y : Operand) (T' : TypeId) (ho : o.op = .binOp .eql T x y T') (z : Bool)
    (hx : a.eval x = .bool z) (hy : a.eval y = .bool z) (heq : ∀ w, (Op.equal T (.bool z) (.bool z)).run P w = .ok true w) (h : K (a.put dst (.bool true)) w) : o.wp P a w K Q := by
  refine wp_val_of dst hd (.bool true) ?_ h
  unfold execOp
  simp only [ho, hx, hy]
  have e1 : (eqGuard .eql T x y (.bool z) (.bool z)).run P w = .ok () w := by
    simp [eqGuard]
  have e2 : (binOp .eql T (.bool z) (.bool z)).run P w = .ok (.bool true) w := by
    simp [binOp, heq]
  simp only [Sem.run_bind, e1, e2, Result.andThen_ok, Sem.run_pure]
theorem eqb_sameB (z : Bool) (w : World) : (Op.equal 4 (.bool z) (.bool z)).run Tryz.prog w = .ok true w := by cases z <;> kernel_rfl
theorem bpT_le (B : Blk) : (bpT B).length ≤ 140737488351232 := by
  unfold bpT
  split
  · rename_i h; have := (blM_parts h).2; omega
  · simp
set_option maxRecDepth 100000 in
set_option maxHeartbeats 16000000 in
theorem blockPuts_law {w : World} (tv : Value) (B : Blk) (h : BlAt w tv B) (hE : EIs w) (hK : KIs w) :
    Calls Tryz.prog 3 #[.agg (blc B tv)] w fun e w' => e = .returned (.bool true) ∧ Nx w w' := by
  have HGR := Lib.hid (fun W x => bgreat_any tv B W x)
  have H1 := Lib.hid (fun W x g => bput_any tv B W x g)
  have H2 := Lib.hid (fun W x => rbput_any tv B W x)
  have H3 := Lib.hid (fun W x k g => bids_any tv B W x k g)
  have H4 := Lib.hid (fun W x => rbids_any tv B W x)
  have H5 : Hid (∀ W, BlAt W tv B → KIs W → EIs W → Calls Tryz.prog 13 #[.agg (blc B tv)] W fun e w' => ∃ tv', e = .returned (.tuple #[.agg (blc (slT B) tv'), .int .i64 (roE B.txs)]) ∧ BlAt w' tv' (slT B) ∧ Nx W w') := Lib.hid (fun W x k g => (bseal_any tv B W x k g).mono fun e w' ⟨tv', q1, q2, q3⟩ => ⟨tv', q1, ⟨q2.1, q2.2.rd⟩, q3⟩)
  have H6 := Lib.hid (fun W x => rbseal_any tv B W x)
  have HZ1 := Lib.hid (fun W x k g => sealed_any tv B W x k g)
  have HZ2 := Lib.hid (fun W x => rsealed_any tv B W x)
  have HS := Lib.hid (fun u v W h1 h2 => rbsame_yes u v (slT B) W h1 h2)
  have HW := Lib.hid (fun w k g => bworks_any w k g)
  have HH : Hid (∀ W v1 v2, RdE elH W v1 (idsL B.txs) → RdE elH W v2 (idsL B.txs) → Calls Tryz.prog 16 #[v1, v2] W fun e w' => e = .returned (.bool true) ∧ Nx W w') := Lib.hid fun W v1 v2 r1 r2 => by
    have := hashes_any v1 v2 (idsL B.txs) (idsL B.txs) W r1 r2 (by have := idsL_len B.txs; omega)
    rwa [decide_eq_true rfl] at this
  have HT := Lib.hid h
  have HG := Lib.hid hE
  have HKK := Lib.hid hK
  have LL := Lib.hid (bpT_le B)
  obtain ⟨hz, hzs⟩ := zero_of_info info_blz
  have bs := Lib.hid (fun (B : Blk) tv h => blocksz B tv h)
  have be := Lib.hid (fun (B : Blk) tv h => blcsame blZ B (.slice none 0 0) tv HOkZ h)
  have bo := Lib.hid (fun (B : Blk) A n c => blc_one B (.slice A n c) rfl)
  generalize blc blZ = BZ at *
  obtain ⟨A0, c0, htv, -⟩ := h.x.elem
  subst htv
  have x0 := Lib.hid (bs.out B (.slice A0 B.txs.length c0) h.h)
  have KT := Lib.hid (Row.new w (blc B (.slice A0 B.txs.length c0)) 29 _ rfl)
  have NN := Lib.hid ((Nx.refl w).alloc (.cells (blc B (.slice A0 B.txs.length c0)) 29))
  clear h hE hK
  generalize bpT B = L at *
  generalize bpE B = PE at *
  generalize idsL B.txs = IL at *
  generalize liE B.txs = LE at *
  generalize slT B = SB at *
  generalize roE B.txs = RE at *
  generalize seB B = SE at *
  generalize blc B (.slice A0 B.txs.length c0) = C0 at *
  go_enter Tryz.func3, Tryz.ntmps3
  have KP := KT.out
  go_wp2_with (refine wpList_load_row rfl 29 (.tmp 1) rfl w.heap.size rfl 29 C0 (0, 0) _ KP Tryz.underlying29 rfl x0.out ?_)
  refine (HGR.out _ (HT.out.nx NN.out)).mono ?_
  rintro e u0 ⟨b, rfl, n0⟩
  replace KT := Lib.hid (KT.out.nx n0)
  replace NN := Lib.hid (NN.out.trans n0)
  clear n0 HGR KP
  cases b
  case true =>
    go_wp2_with fail
    refine (HW.out _ (HKK.out.nx NN.out) (HG.out.nx NN.out)).mono ?_
    rintro e w2 ⟨rfl, n2⟩
    have N2 := Lib.hid (NN.out.trans n2)
    clear n2 NN
    go_wp2_with fail
    go_ret
    exact ⟨rfl, N2.out⟩
  case false =>
    have KP := KT.out
    go_wp2_with (refine wpList_load_row rfl 29 (.tmp 1) rfl w.heap.size rfl 29 C0 (0, 0) _ KP Tryz.underlying29 rfl x0.out ?_)
    refine (H1.out _ (HT.out.nx NN.out) (HG.out.nx NN.out)).mono ?_
    rintro e u1 ⟨v1, rfl, o1, n1⟩
    have RA := Lib.hid o1.rd
    obtain ⟨D1, d1, rfl, -⟩ := o1.rd
    replace KT := Lib.hid (KT.out.nx n1)
    replace NN := Lib.hid (NN.out.trans n1)
    clear n1 o1 KP
    have KP := KT.out
    go_wp2_with (refine wpList_load_row rfl 29 (.tmp 1) rfl w.heap.size rfl 29 C0 (0, 0) _ KP Tryz.underlying29 rfl x0.out ?_)
    refine (H2.out _ (HT.out.nx NN.out)).mono ?_
    rintro e u2 ⟨v2, rfl, o2, n2⟩
    have RB := Lib.hid o2.rd
    obtain ⟨D2, d2, rfl, -⟩ := o2.rd
    replace RA := Lib.hid (RA.out.nx n2)
    replace KT := Lib.hid (KT.out.nx n2)
    replace NN := Lib.hid (NN.out.trans n2)
    clear n2 o2 KP
    have KP := KT.out
    go_wp2_with (refine wpList_load_row rfl 29 (.tmp 1) rfl w.heap.size rfl 29 C0 (0, 0) _ KP Tryz.underlying29 rfl x0.out ?_)
    refine (H3.out _ (HT.out.nx NN.out) (HKK.out.nx NN.out) (HG.out.nx NN.out)).mono ?_
    rintro e u3 ⟨v3, rfl, o3, n3⟩
    have RC := Lib.hid o3
    obtain ⟨D3, d3, rfl, -⟩ := o3.elem
    replace RA := Lib.hid (RA.out.nx n3)
    replace RB := Lib.hid (RB.out.nx n3)
    replace KT := Lib.hid (KT.out.nx n3)
    replace NN := Lib.hid (NN.out.trans n3)
    clear n3 o3 KP
    have KP := KT.out
    go_wp2_with (refine wpList_load_row rfl 29 (.tmp 1) rfl w.heap.size rfl 29 C0 (0, 0) _ KP Tryz.underlying29 rfl x0.out ?_)
    refine (H4.out _ (HT.out.nx NN.out)).mono ?_
    rintro e u4 ⟨v4, rfl, o4, n4⟩
    have RD := Lib.hid o4
    obtain ⟨D4, d4, rfl, -⟩ := o4.elem
    replace RA := Lib.hid (RA.out.nx n4)
    replace RB := Lib.hid (RB.out.nx n4)
    replace RC := Lib.hid (RC.out.nx n4)
    replace KT := Lib.hid (KT.out.nx n4)
    replace NN := Lib.hid (NN.out.trans n4)
    clear n4 o4 KP
    have KP := KT.out
    go_wp2_with (refine wpList_load_row rfl 29 (.tmp 1) rfl w.heap.size rfl 29 C0 (0, 0) _ KP Tryz.underlying29 rfl x0.out ?_)
    refine (H5.out _ (HT.out.nx NN.out) (HKK.out.nx NN.out) (HG.out.nx NN.out)).mono ?_
    rintro e w5 ⟨tv5, rfl, bb5, n5⟩
    have bl5 := bb5
    obtain ⟨A5, c5, rfl, -⟩ := bl5.x.elem
    have Z5 := Row.new w5 (BZ (.slice none 0 0)) 29 _ rfl
    have M5 := ((Nx.refl w5).alloc (.cells (BZ (.slice none 0 0)) 29)).setRow (g := w5.heap.size) (blc SB (.slice A5 SB.txs.length c5)) (Nat.le_refl _)
    have R5 := Lib.hid (Z5.setRow (blc SB (.slice A5 SB.txs.length c5)))
    have T5 := Lib.hid (bl5.nx M5)
    have x5 := Lib.hid (bs.out SB (.slice A5 SB.txs.length c5) bl5.h)
    have y5 := Lib.hid (be.out SB (.slice A5 SB.txs.length c5) bl5.h)
    have z5 := Lib.hid (bo.out SB A5 SB.txs.length c5)
    replace RA := Lib.hid (RA.out.nx (n5.trans M5))
    replace RB := Lib.hid (RB.out.nx (n5.trans M5))
    replace RC := Lib.hid (RC.out.nx (n5.trans M5))
    replace RD := Lib.hid (RD.out.nx (n5.trans M5))
    replace KT := Lib.hid (KT.out.nx (n5.trans M5))
    replace NN := Lib.hid (NN.out.trans (n5.trans M5))
    clear bl5 bb5 n5 M5
    go_upto_region 8 with (refine wpList_store_row rfl 29 (.tmp 11) (.tmp 41) rfl w5.heap.size (blc SB (.slice A5 SB.txs.length c5)) rfl rfl 29 (BZ (.slice none 0 0)) Z5 x5.out y5.out z5.out ?_)
    generalize hg5 : w5.heap.size = g5 at *
    clear Z5 hg5
    generalize (w5.alloc (.cells (BZ (.slice none 0 0)) 29)).setRow g5 (blc SB (.slice A5 SB.txs.length c5)) = V5 at *
    clear KP
    have KP := KT.out
    go_wp2_with (refine wpList_load_row rfl 29 (.tmp 1) rfl w.heap.size rfl 29 C0 (0, 0) _ KP Tryz.underlying29 rfl x0.out ?_)
    refine (H6.out _ (HT.out.nx NN.out)).mono ?_
    rintro e w6 ⟨tv6, rfl, bb6, n6⟩
    have bl6 := bb6
    obtain ⟨A6, c6, rfl, -⟩ := bl6.x.elem
    have Z6 := Row.new w6 (BZ (.slice none 0 0)) 29 _ rfl
    have M6 := ((Nx.refl w6).alloc (.cells (BZ (.slice none 0 0)) 29)).setRow (g := w6.heap.size) (blc SB (.slice A6 SB.txs.length c6)) (Nat.le_refl _)
    have R6 := Lib.hid (Z6.setRow (blc SB (.slice A6 SB.txs.length c6)))
    have T6 := Lib.hid (bl6.nx M6)
    have x6 := Lib.hid (bs.out SB (.slice A6 SB.txs.length c6) bl6.h)
    have y6 := Lib.hid (be.out SB (.slice A6 SB.txs.length c6) bl6.h)
    have z6 := Lib.hid (bo.out SB A6 SB.txs.length c6)
    replace R5 := Lib.hid (R5.out.nx (n6.trans M6))
    replace T5 := Lib.hid (T5.out.nx (n6.trans M6))
    replace RA := Lib.hid (RA.out.nx (n6.trans M6))
    replace RB := Lib.hid (RB.out.nx (n6.trans M6))
    replace RC := Lib.hid (RC.out.nx (n6.trans M6))
    replace RD := Lib.hid (RD.out.nx (n6.trans M6))
    replace KT := Lib.hid (KT.out.nx (n6.trans M6))
    replace NN := Lib.hid (NN.out.trans (n6.trans M6))
    clear bl6 bb6 n6 M6
    go_upto_region 9 with (refine wpList_store_row rfl 29 (.tmp 13) (.tmp 46) rfl w6.heap.size (blc SB (.slice A6 SB.txs.length c6)) rfl rfl 29 (BZ (.slice none 0 0)) Z6 x6.out y6.out z6.out ?_)
    generalize hg6 : w6.heap.size = g6 at *
    clear Z6 hg6
    generalize (w6.alloc (.cells (BZ (.slice none 0 0)) 29)).setRow g6 (blc SB (.slice A6 SB.txs.length c6)) = V6 at *
    clear KP
    refine wp_region_nx 39 [[], [], [0, 1], [2, 2], [3], [3], [4, 5, 3], [3, 6], [7, 3], [8], [8], [9, 10, 8, 8], [8, 11], [12, 11], [13], [13], [14, 15, 13], [13, 16], [17, 13], [18], [18], [19, 20, 18, 18], [18, 21], [22, 21], [23], [23], [24, 25, 23], [23, 26], [27, 23], [28], [29, 28, 28], [28], [31, 30, 28], [30, 32, 28], [28, 33], [34, 32], [35, 35], [35, 36], [37, 36, 0, 1, 2, 3, 4, 5, 6, 7, 8, 9, 10, 11, 12, 13, 14, 15, 16, 17, 18, 19, 20, 21, 22, 23, 24, 25, 26, 27, 28, 29, 30, 31, 32, 33, 34, 35, 36, 37]] [some 48, some 49, some 50, some 51, some 52, some 53, some 54, some 55, some 56, some 57, some 58, some 59, some 60, some 61, some 62, some 63, some 64, some 65, some 66, some 67, some 68, some 69, some 70, some 71, some 72, some 73, some 74, some 75, some 76, some 77, some 78, some 79, some 80, some 81, some 82, some 83, some 84, some 85, some 2]
      [.eq (.slice D1 L.length d1), .eq (.slice D2 L.length d2), .eq (.bool true), .eq (.bool true), .eq (.int .i64 PE), .eq (.int .i64 PE), .eq (.bool true), .eq (.bool true), .eq (.bool true), .eq (.slice D3 IL.length d3), .eq (.slice D4 IL.length d4), .eq (.bool true), .eq (.bool true), .eq (.bool true), .eq (.int .i64 LE), .eq (.int .i64 LE), .eq (.bool true), .eq (.bool true), .eq (.bool true), .eq (.agg (blc SB (.slice A5 SB.txs.length c5))), .eq (.agg (blc SB (.slice A6 SB.txs.length c6))), .eq (.bool true), .eq (.bool true), .eq (.bool true), .eq (.int .i64 RE), .eq (.int .i64 RE), .eq (.bool true), .eq (.bool true), .eq (.bool true), .eq (.agg C0), .eq (.bool SE), .eq (.agg C0), .eq (.bool SE), .eq (.bool true), .eq (.bool true), .eq (.bool true), .eq (.bool true), .eq (.bool true), .eq (.bool true)]
      (by kernel_rfl) (by kernel_rfl) (hord_of (by decide)) (by kernel_rfl) (by decide) (by decide) (htail_of (by decide)) ?_ _ (by rfl) ?_
    · intro x tm wr htm hx i hi hd K hK
      simp only [fillA, List.setIfInBounds_toArray, List.set_cons_zero, List.set_cons_succ] at htm
      subst htm
      have hcs : i = 0 ∨ i = 1 ∨ i = 2 ∨ i = 3 ∨ i = 4 ∨ i = 5 ∨ i = 6 ∨ i = 7 ∨ i = 8 ∨ i = 9 ∨ i = 10 ∨ i = 11 ∨ i = 12 ∨ i = 13 ∨ i = 14 ∨ i = 15 ∨ i = 16 ∨ i = 17 ∨ i = 18 ∨ i = 19 ∨ i = 20 ∨ i = 21 ∨ i = 22 ∨ i = 23 ∨ i = 24 ∨ i = 25 ∨ i = 26 ∨ i = 27 ∨ i = 28 ∨ i = 29 ∨ i = 30 ∨ i = 31 ∨ i = 32 ∨ i = 33 ∨ i = 34 ∨ i = 35 ∨ i = 36 ∨ i = 37 ∨ i = 38 := by omega
      clear hi
      rcases hcs with rfl | rfl | rfl | rfl | rfl | rfl | rfl | rfl | rfl | rfl | rfl | rfl | rfl | rfl | rfl | rfl | rfl | rfl | rfl | rfl | rfl | rfl | rfl | rfl | rfl | rfl | rfl | rfl | rfl | rfl | rfl | rfl | rfl | rfl | rfl | rfl | rfl | rfl | rfl
      · exact wpOp_of rfl rfl (wp_val_of (some 48) rfl (.slice D1 L.length d1) (by kernel_rfl) (hK _ _ rfl (Nx.refl _)))
      · exact wpOp_of rfl rfl (wp_val_of (some 49) rfl (.slice D2 L.length d2) (by kernel_rfl) (hK _ _ rfl (Nx.refl _)))
      · have e0 : x 0 = .slice D1 L.length d1 := hd 0 (by decide)
        have e1 : x 1 = .slice D2 L.length d2 := hd 1 (by decide)
        generalize x 0 = y0 at e0 hK ⊢
        subst e0
        generalize x 1 = y1 at e1 hK ⊢
        subst e1
        refine wpOp_of rfl rfl (wp_call_of (some 50) rfl 15 #[(.slice D1 L.length d1), (.slice D2 L.length d2)] (by kernel_rfl) (.bool true) ?_ (fun w' h => hK _ w' rfl h))
        exact same_yes _ _ L wr (RA.out.nx hx) (RB.out.nx hx)
      · have e2 : x 2 = .bool true := hd 2 (by decide)
        generalize x 2 = y2 at e2 hK ⊢
        subst e2
        exact wpOp_of rfl rfl (wp_val_of (some 51) rfl (.bool true) (by kernel_rfl) (hK _ _ rfl (Nx.refl _)))
      · have e3 : x 3 = .bool true := hd 3 (by decide)
        generalize x 3 = y3 at e3 hK ⊢
        subst e3
        exact wpOp_g rfl (by rfl) (wp_val_of (some 52) rfl (.int .i64 PE) (by kernel_rfl) (hK _ _ rfl (Nx.refl _)))
      · have e3 : x 3 = .bool true := hd 3 (by decide)
        generalize x 3 = y3 at e3 hK ⊢
        subst e3
        exact wpOp_g rfl (by rfl) (wp_val_of (some 53) rfl (.int .i64 PE) (by kernel_rfl) (hK _ _ rfl (Nx.refl _)))
      · have e4 : x 4 = .int .i64 PE := hd 4 (by decide)
        have e5 : x 5 = .int .i64 PE := hd 5 (by decide)
        have e3 : x 3 = .bool true := hd 3 (by decide)
        generalize x 4 = y4 at e4 hK ⊢
        subst e4
        generalize x 5 = y5 at e5 hK ⊢
        subst e5
        generalize x 3 = y3 at e3 hK ⊢
        subst e3
        exact wpOp_g rfl (by rfl) (wp_eqi_ofB (some 54) rfl _ _ _ _ rfl .i64 (PE) rfl rfl (hK _ _ rfl (Nx.refl _)))
      · have e3 : x 3 = .bool true := hd 3 (by decide)
        have e6 : x 6 = .bool true := hd 6 (by decide)
        generalize x 3 = y3 at e3 hK ⊢
        subst e3
        generalize x 6 = y6 at e6 hK ⊢
        subst e6
        exact wpOp_of rfl rfl (wp_val_of (some 55) rfl (.bool true) (by kernel_rfl) (hK _ _ rfl (Nx.refl _)))
      · have e7 : x 7 = .bool true := hd 7 (by decide)
        have e3 : x 3 = .bool true := hd 3 (by decide)
        generalize x 7 = y7 at e7 hK ⊢
        subst e7
        generalize x 3 = y3 at e3 hK ⊢
        subst e3
        exact wpOp_of rfl rfl (wp_val_of (some 56) rfl (.bool true) (by kernel_rfl) (hK _ _ rfl (Nx.refl _)))
      · have e8 : x 8 = .bool true := hd 8 (by decide)
        generalize x 8 = y8 at e8 hK ⊢
        subst e8
        exact wpOp_g rfl (by rfl) (wp_val_of (some 57) rfl (.slice D3 IL.length d3) (by kernel_rfl) (hK _ _ rfl (Nx.refl _)))
      · have e8 : x 8 = .bool true := hd 8 (by decide)
        generalize x 8 = y8 at e8 hK ⊢
        subst e8
        exact wpOp_g rfl (by rfl) (wp_val_of (some 58) rfl (.slice D4 IL.length d4) (by kernel_rfl) (hK _ _ rfl (Nx.refl _)))
      · have e9 : x 9 = .slice D3 IL.length d3 := hd 9 (by decide)
        have e10 : x 10 = .slice D4 IL.length d4 := hd 10 (by decide)
        have e8 : x 8 = .bool true := hd 8 (by decide)
        generalize x 9 = y9 at e9 hK ⊢
        subst e9
        generalize x 10 = y10 at e10 hK ⊢
        subst e10
        generalize x 8 = y8 at e8 hK ⊢
        subst e8
        refine wpOp_g rfl (by rfl) (wp_call_of (some 59) rfl 16 #[(.slice D3 IL.length d3), (.slice D4 IL.length d4)] (by kernel_rfl) (.bool true) ?_ (fun w' h => hK _ w' rfl h))
        exact HH.out wr _ _ (RC.out.nx hx) (RD.out.nx hx)
      · have e8 : x 8 = .bool true := hd 8 (by decide)
        have e11 : x 11 = .bool true := hd 11 (by decide)
        generalize x 8 = y8 at e8 hK ⊢
        subst e8
        generalize x 11 = y11 at e11 hK ⊢
        subst e11
        exact wpOp_of rfl rfl (wp_val_of (some 60) rfl (.bool true) (by kernel_rfl) (hK _ _ rfl (Nx.refl _)))
      · have e12 : x 12 = .bool true := hd 12 (by decide)
        have e11 : x 11 = .bool true := hd 11 (by decide)
        generalize x 12 = y12 at e12 hK ⊢
        subst e12
        generalize x 11 = y11 at e11 hK ⊢
        subst e11
        exact wpOp_of rfl rfl (wp_val_of (some 61) rfl (.bool true) (by kernel_rfl) (hK _ _ rfl (Nx.refl _)))
      · have e13 : x 13 = .bool true := hd 13 (by decide)
        generalize x 13 = y13 at e13 hK ⊢
        subst e13
        exact wpOp_g rfl (by rfl) (wp_val_of (some 62) rfl (.int .i64 LE) (by kernel_rfl) (hK _ _ rfl (Nx.refl _)))
      · have e13 : x 13 = .bool true := hd 13 (by decide)
        generalize x 13 = y13 at e13 hK ⊢
        subst e13
        exact wpOp_g rfl (by rfl) (wp_val_of (some 63) rfl (.int .i64 LE) (by kernel_rfl) (hK _ _ rfl (Nx.refl _)))
      · have e14 : x 14 = .int .i64 LE := hd 14 (by decide)
        have e15 : x 15 = .int .i64 LE := hd 15 (by decide)
        have e13 : x 13 = .bool true := hd 13 (by decide)
        generalize x 14 = y14 at e14 hK ⊢
        subst e14
        generalize x 15 = y15 at e15 hK ⊢
        subst e15
        generalize x 13 = y13 at e13 hK ⊢
        subst e13
        exact wpOp_g rfl (by rfl) (wp_eqi_ofB (some 64) rfl _ _ _ _ rfl .i64 (LE) rfl rfl (hK _ _ rfl (Nx.refl _)))
      · have e13 : x 13 = .bool true := hd 13 (by decide)
        have e16 : x 16 = .bool true := hd 16 (by decide)
        generalize x 13 = y13 at e13 hK ⊢
        subst e13
        generalize x 16 = y16 at e16 hK ⊢
        subst e16
        exact wpOp_of rfl rfl (wp_val_of (some 65) rfl (.bool true) (by kernel_rfl) (hK _ _ rfl (Nx.refl _)))
      · have e17 : x 17 = .bool true := hd 17 (by decide)
        have e13 : x 13 = .bool true := hd 13 (by decide)
        generalize x 17 = y17 at e17 hK ⊢
        subst e17
        generalize x 13 = y13 at e13 hK ⊢
        subst e13
        exact wpOp_of rfl rfl (wp_val_of (some 66) rfl (.bool true) (by kernel_rfl) (hK _ _ rfl (Nx.refl _)))
      · have e18 : x 18 = .bool true := hd 18 (by decide)
        generalize x 18 = y18 at e18 hK ⊢
        subst e18
        exact wpOp_g rfl (by rfl) (wp_load_row_of (some 67) rfl 29 (.tmp 11) rfl (g5) rfl 29 ((blc SB (.slice A5 SB.txs.length c5))) _ (R5.out.nx hx) Tryz.underlying29 rfl x5.out (hK _ _ rfl (Nx.refl _)))
      · have e18 : x 18 = .bool true := hd 18 (by decide)
        generalize x 18 = y18 at e18 hK ⊢
        subst e18
        exact wpOp_g rfl (by rfl) (wp_load_row_of (some 68) rfl 29 (.tmp 13) rfl (g6) rfl 29 ((blc SB (.slice A6 SB.txs.length c6))) _ (R6.out.nx hx) Tryz.underlying29 rfl x6.out (hK _ _ rfl (Nx.refl _)))
      · have e19 : x 19 = .agg (blc SB (.slice A5 SB.txs.length c5)) := hd 19 (by decide)
        have e20 : x 20 = .agg (blc SB (.slice A6 SB.txs.length c6)) := hd 20 (by decide)
        have e18 : x 18 = .bool true := hd 18 (by decide)
        generalize x 19 = y19 at e19 hK ⊢
        subst e19
        generalize x 20 = y20 at e20 hK ⊢
        subst e20
        generalize x 18 = y18 at e18 hK ⊢
        subst e18
        refine wpOp_g rfl (by rfl) (wp_call_of (some 69) rfl 17 #[(.agg (blc SB (.slice A5 SB.txs.length c5))), (.agg (blc SB (.slice A6 SB.txs.length c6)))] (by kernel_rfl) (.bool true) ?_ (fun w' h => hK _ w' rfl h))
        exact HS.out _ _ wr (T5.out.nx hx) (T6.out.nx hx)
      · have e18 : x 18 = .bool true := hd 18 (by decide)
        have e21 : x 21 = .bool true := hd 21 (by decide)
        generalize x 18 = y18 at e18 hK ⊢
        subst e18
        generalize x 21 = y21 at e21 hK ⊢
        subst e21
        exact wpOp_of rfl rfl (wp_val_of (some 70) rfl (.bool true) (by kernel_rfl) (hK _ _ rfl (Nx.refl _)))
      · have e22 : x 22 = .bool true := hd 22 (by decide)
        have e21 : x 21 = .bool true := hd 21 (by decide)
        generalize x 22 = y22 at e22 hK ⊢
        subst e22
        generalize x 21 = y21 at e21 hK ⊢
        subst e21
        exact wpOp_of rfl rfl (wp_val_of (some 71) rfl (.bool true) (by kernel_rfl) (hK _ _ rfl (Nx.refl _)))
      · have e23 : x 23 = .bool true := hd 23 (by decide)
        generalize x 23 = y23 at e23 hK ⊢
        subst e23
        exact wpOp_g rfl (by rfl) (wp_val_of (some 72) rfl (.int .i64 RE) (by kernel_rfl) (hK _ _ rfl (Nx.refl _)))
      · have e23 : x 23 = .bool true := hd 23 (by decide)
        generalize x 23 = y23 at e23 hK ⊢
        subst e23
        exact wpOp_g rfl (by rfl) (wp_val_of (some 73) rfl (.int .i64 RE) (by kernel_rfl) (hK _ _ rfl (Nx.refl _)))
      · have e24 : x 24 = .int .i64 RE := hd 24 (by decide)
        have e25 : x 25 = .int .i64 RE := hd 25 (by decide)
        have e23 : x 23 = .bool true := hd 23 (by decide)
        generalize x 24 = y24 at e24 hK ⊢
        subst e24
        generalize x 25 = y25 at e25 hK ⊢
        subst e25
        generalize x 23 = y23 at e23 hK ⊢
        subst e23
        exact wpOp_g rfl (by rfl) (wp_eqi_ofB (some 74) rfl _ _ _ _ rfl .i64 (RE) rfl rfl (hK _ _ rfl (Nx.refl _)))
      · have e23 : x 23 = .bool true := hd 23 (by decide)
        have e26 : x 26 = .bool true := hd 26 (by decide)
        generalize x 23 = y23 at e23 hK ⊢
        subst e23
        generalize x 26 = y26 at e26 hK ⊢
        subst e26
        exact wpOp_of rfl rfl (wp_val_of (some 75) rfl (.bool true) (by kernel_rfl) (hK _ _ rfl (Nx.refl _)))
      · have e27 : x 27 = .bool true := hd 27 (by decide)
        have e23 : x 23 = .bool true := hd 23 (by decide)
        generalize x 27 = y27 at e27 hK ⊢
        subst e27
        generalize x 23 = y23 at e23 hK ⊢
        subst e23
        exact wpOp_of rfl rfl (wp_val_of (some 76) rfl (.bool true) (by kernel_rfl) (hK _ _ rfl (Nx.refl _)))
      · have e28 : x 28 = .bool true := hd 28 (by decide)
        generalize x 28 = y28 at e28 hK ⊢
        subst e28
        exact wpOp_g rfl (by rfl) (wp_load_row_of (some 77) rfl 29 (.tmp 1) rfl (w.heap.size) rfl 29 (C0) _ (KT.out.nx hx) Tryz.underlying29 rfl x0.out (hK _ _ rfl (Nx.refl _)))
      · have e29 : x 29 = .agg C0 := hd 29 (by decide)
        have e28 : x 28 = .bool true := hd 28 (by decide)
        generalize x 29 = y29 at e29 hK ⊢
        subst e29
        generalize x 28 = y28 at e28 hK ⊢
        subst e28
        refine wpOp_g rfl (by rfl) (wp_call_of (some 78) rfl 18 #[(.agg C0)] (by kernel_rfl) (.bool SE) ?_ (fun w' h => hK _ w' rfl h))
        exact HZ1.out wr (HT.out.nx (NN.out.trans hx)) (HKK.out.nx (NN.out.trans hx)) (HG.out.nx (NN.out.trans hx))
      · have e28 : x 28 = .bool true := hd 28 (by decide)
        generalize x 28 = y28 at e28 hK ⊢
        subst e28
        exact wpOp_g rfl (by rfl) (wp_load_row_of (some 79) rfl 29 (.tmp 1) rfl (w.heap.size) rfl 29 (C0) _ (KT.out.nx hx) Tryz.underlying29 rfl x0.out (hK _ _ rfl (Nx.refl _)))
      · have e31 : x 31 = .agg C0 := hd 31 (by decide)
        have e30 : x 30 = .bool SE := hd 30 (by decide)
        have e28 : x 28 = .bool true := hd 28 (by decide)
        generalize x 31 = y31 at e31 hK ⊢
        subst e31
        generalize x 30 = y30 at e30 hK ⊢
        subst e30
        generalize x 28 = y28 at e28 hK ⊢
        subst e28
        refine wpOp_g rfl (by rfl) (wp_call_of (some 80) rfl 19 #[(.agg C0)] (by kernel_rfl) (.bool SE) ?_ (fun w' h => hK _ w' rfl h))
        exact HZ2.out wr (HT.out.nx (NN.out.trans hx))
      · have e30 : x 30 = .bool SE := hd 30 (by decide)
        have e32 : x 32 = .bool SE := hd 32 (by decide)
        have e28 : x 28 = .bool true := hd 28 (by decide)
        generalize x 30 = y30 at e30 hK ⊢
        subst e30
        generalize x 32 = y32 at e32 hK ⊢
        subst e32
        generalize x 28 = y28 at e28 hK ⊢
        subst e28
        exact wpOp_g rfl (by rfl) (wp_eqb_ofB (some 81) rfl _ _ _ _ rfl (SE) rfl rfl (eqb_sameB (SE)) (hK _ _ rfl (Nx.refl _)))
      · have e28 : x 28 = .bool true := hd 28 (by decide)
        have e33 : x 33 = .bool true := hd 33 (by decide)
        generalize x 28 = y28 at e28 hK ⊢
        subst e28
        generalize x 33 = y33 at e33 hK ⊢
        subst e33
        exact wpOp_of rfl rfl (wp_val_of (some 82) rfl (.bool true) (by kernel_rfl) (hK _ _ rfl (Nx.refl _)))
      · have e34 : x 34 = .bool true := hd 34 (by decide)
        have e32 : x 32 = .bool SE := hd 32 (by decide)
        generalize x 34 = y34 at e34 hK ⊢
        subst e34
        generalize x 32 = y32 at e32 hK ⊢
        subst e32
        exact wpOp_of rfl rfl (wp_val_of (some 83) rfl (.bool true) (by kernel_rfl) (hK _ _ rfl (Nx.refl _)))
      · have e35 : x 35 = .bool true := hd 35 (by decide)
        generalize x 35 = y35 at e35 hK ⊢
        subst e35
        refine wpOp_g rfl (by rfl) (wp_call_of (some 84) rfl 8 #[] (by kernel_rfl) (.bool true) ?_ (fun w' h => hK _ w' rfl h))
        exact HW.out wr (HKK.out.nx (NN.out.trans hx)) (HG.out.nx (NN.out.trans hx))
      · have e35 : x 35 = .bool true := hd 35 (by decide)
        have e36 : x 36 = .bool true := hd 36 (by decide)
        generalize x 35 = y35 at e35 hK ⊢
        subst e35
        generalize x 36 = y36 at e36 hK ⊢
        subst e36
        exact wpOp_of rfl rfl (wp_val_of (some 85) rfl (.bool true) (by kernel_rfl) (hK _ _ rfl (Nx.refl _)))
      · have e37 : x 37 = .bool true := hd 37 (by decide)
        generalize x 37 = y37 at e37 hK ⊢
        subst e37
        exact wpOp_of rfl rfl (wp_val_of (some 2) rfl (.bool true) (by kernel_rfl) (hK _ _ rfl (Nx.refl _)))
    · intro x tm wr htm hx hv
      simp only [fillA, List.setIfInBounds_toArray, List.set_cons_zero, List.set_cons_succ] at htm
      subst htm
      have e38 : x 38 = .bool true := hv 38 (by decide)
      rw [e38]
      refine wpList_nil ?_
      go_wp2_with fail
      go_ret
      exact ⟨rfl, NN.out.trans hx⟩
end Go.Proofs.YtejeekbpeinioaaGreatDoor
