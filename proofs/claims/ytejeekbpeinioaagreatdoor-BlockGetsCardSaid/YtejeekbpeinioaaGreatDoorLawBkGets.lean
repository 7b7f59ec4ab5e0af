/- THE LAW BlockGets. -/
import Derived.Test.YtejeekbpeinioaaGreatDoorBkW
import Derived.Test.YtejeekbpeinioaaGreatDoorBkR5
import Derived.Test.YtejeekbpeinioaaGreatDoorBkR7
namespace Go.Proofs.YtejeekbpeinioaaGreatDoor
open Go Go.RowKit
set_option linter.unusedVariables false
set_option linter.unusedSimpArgs false
set_option linter.unusedVariables false
set_option linter.unusedSimpArgs false

set_option maxRecDepth 100000 in
set_option maxHeartbeats 8000000 in
theorem blockGets_law {w : World} (v : Value) (l : List UInt8) (h : Rd w v l) (hr0 : l.length ≤ 140737488351232) (at_ : Int) (_ : -9223372036854775808 ≤ at_) (_ : at_ ≤ 9223372036854775807) (hE : EIs w) (hK : KIs w) :
    Calls Tryz.prog 4 #[v, .int .i64 at_] w fun e w' => e = .returned (.bool true) ∧ Nx w w' := by
  have hl : l.length ≤ 140737488355328 := by omega
  have H1 := Lib.hid (fun w h g => bget_any v l at_ w h hl g)
  have H2 := Lib.hid (fun w h => rbget_any v l at_ w h hl)
  have H3 := Lib.hid (fun w h g => bread_any v l w h hl g)
  have H4 := Lib.hid (fun w h => rbread_any v l w h hl)
  have HB := Lib.hid h
  have HG := Lib.hid hE
  have HKK := Lib.hid hK
  have HW := Lib.hid (fun w k g => bworks_any w k g)
  obtain ⟨hz, hzs⟩ := zero_of_info info_blz
  have bs := Lib.hid (fun (B : Blk) tv h => blocksz B tv h)
  have be := Lib.hid (fun (B : Blk) tv h => blcsame blZ B (.slice none 0 0) tv HOkZ h)
  have bo := Lib.hid (fun (B : Blk) A n c => blc_one B (.slice A n c) rfl)
  generalize blc blZ = BZ at *
  obtain ⟨A, c, rfl, -⟩ := h
  generalize bgT l at_ = T at *
  generalize brT l = U at *
  obtain ⟨B1, p, E⟩ := T
  obtain ⟨B2, F⟩ := U
  dsimp only at *
  have HSM := Lib.hid (fun u v W h1 h2 => rbsame_yes u v B1 W h1 h2)
  have HSN := Lib.hid (fun u v W h1 h2 => rbsame_yes u v B2 W h1 h2)
  have e1 : ((p : Int) == p) = true := by simp
  have e2 : ((E : Int) == E) = true := by simp
  have e3 : ((F : Int) == F) = true := by simp
  have NN := Lib.hid (Nx.refl w)
  clear hl hr0 hE hK
  go_enter Tryz.func4, Tryz.ntmps4
  go_wp2_with fail
  refine (H1.out _ (HB.out.nx NN.out) (HG.out.nx NN.out)).mono ?_
  rintro e w1 ⟨tv1, rfl, bb1, n1⟩
  have bl1 := bb1 w1 (Above.of_nx (Nx.refl _))
  obtain ⟨A1, c1, rfl, -⟩ := bl1.x.elem
  have Z1 := Row.new w1 (BZ (.slice none 0 0)) 29 _ rfl
  have M1 := ((Nx.refl w1).alloc (.cells (BZ (.slice none 0 0)) 29)).setRow (g := w1.heap.size) (blc B1 (.slice A1 B1.txs.length c1)) (Nat.le_refl _)
  have R1 := Lib.hid (Z1.setRow (blc B1 (.slice A1 B1.txs.length c1)))
  have T1 := Lib.hid (bl1.nx M1)
  have x1 := Lib.hid (bs.out B1 (.slice A1 B1.txs.length c1) bl1.h)
  have y1 := Lib.hid (be.out B1 (.slice A1 B1.txs.length c1) bl1.h)
  have z1 := Lib.hid (bo.out B1 A1 B1.txs.length c1)
  replace NN := Lib.hid (NN.out.trans (n1.trans M1))
  clear bl1 bb1 n1 M1
  go_upto_region 2 with (refine wpList_store_row rfl 29 (.tmp 5) (.tmp 19) rfl w1.heap.size (blc B1 (.slice A1 B1.txs.length c1)) rfl rfl 29 (BZ (.slice none 0 0)) Z1 x1.out y1.out z1.out ?_)
  generalize hg1 : w1.heap.size = g1 at *
  clear Z1 hg1
  generalize (w1.alloc (.cells (BZ (.slice none 0 0)) 29)).setRow g1 (blc B1 (.slice A1 B1.txs.length c1)) = V1 at *
  go_wp2_with fail
  refine (H2.out _ (HB.out.nx NN.out)).mono ?_
  rintro e w2 ⟨tv2, rfl, bb2, n2⟩
  have bl2 := bb2 w2 (Above.of_nx (Nx.refl _))
  obtain ⟨A2, c2, rfl, -⟩ := bl2.x.elem
  have Z2 := Row.new w2 (BZ (.slice none 0 0)) 29 _ rfl
  have M2 := ((Nx.refl w2).alloc (.cells (BZ (.slice none 0 0)) 29)).setRow (g := w2.heap.size) (blc B1 (.slice A2 B1.txs.length c2)) (Nat.le_refl _)
  have R2 := Lib.hid (Z2.setRow (blc B1 (.slice A2 B1.txs.length c2)))
  have T2 := Lib.hid (bl2.nx M2)
  have x2 := Lib.hid (bs.out B1 (.slice A2 B1.txs.length c2) bl2.h)
  have y2 := Lib.hid (be.out B1 (.slice A2 B1.txs.length c2) bl2.h)
  have z2 := Lib.hid (bo.out B1 A2 B1.txs.length c2)
  replace R1 := Lib.hid (R1.out.nx (n2.trans M2))
  replace T1 := Lib.hid (T1.out.nx (n2.trans M2))
  replace NN := Lib.hid (NN.out.trans (n2.trans M2))
  clear bl2 bb2 n2 M2
  go_upto_region 3 with (refine wpList_store_row rfl 29 (.tmp 8) (.tmp 26) rfl w2.heap.size (blc B1 (.slice A2 B1.txs.length c2)) rfl rfl 29 (BZ (.slice none 0 0)) Z2 x2.out y2.out z2.out ?_)
  generalize hg2 : w2.heap.size = g2 at *
  clear Z2 hg2
  generalize (w2.alloc (.cells (BZ (.slice none 0 0)) 29)).setRow g2 (blc B1 (.slice A2 B1.txs.length c2)) = V2 at *
  go_wp2_with fail
  refine (H3.out _ (HB.out.nx NN.out) (HG.out.nx NN.out)).mono ?_
  rintro e w3 ⟨tv3, rfl, bb3, n3⟩
  have bl3 := bb3
  obtain ⟨A3, c3, rfl, -⟩ := bl3.x.elem
  have Z3 := Row.new w3 (BZ (.slice none 0 0)) 29 _ rfl
  have M3 := ((Nx.refl w3).alloc (.cells (BZ (.slice none 0 0)) 29)).setRow (g := w3.heap.size) (blc B2 (.slice A3 B2.txs.length c3)) (Nat.le_refl _)
  have R3 := Lib.hid (Z3.setRow (blc B2 (.slice A3 B2.txs.length c3)))
  have T3 := Lib.hid (bl3.nx M3)
  have x3 := Lib.hid (bs.out B2 (.slice A3 B2.txs.length c3) bl3.h)
  have y3 := Lib.hid (be.out B2 (.slice A3 B2.txs.length c3) bl3.h)
  have z3 := Lib.hid (bo.out B2 A3 B2.txs.length c3)
  replace R1 := Lib.hid (R1.out.nx (n3.trans M3))
  replace R2 := Lib.hid (R2.out.nx (n3.trans M3))
  replace T1 := Lib.hid (T1.out.nx (n3.trans M3))
  replace T2 := Lib.hid (T2.out.nx (n3.trans M3))
  replace NN := Lib.hid (NN.out.trans (n3.trans M3))
  clear bl3 bb3 n3 M3
  go_upto_region 4 with (refine wpList_store_row rfl 29 (.tmp 11) (.tmp 32) rfl w3.heap.size (blc B2 (.slice A3 B2.txs.length c3)) rfl rfl 29 (BZ (.slice none 0 0)) Z3 x3.out y3.out z3.out ?_)
  generalize hg3 : w3.heap.size = g3 at *
  clear Z3 hg3
  generalize (w3.alloc (.cells (BZ (.slice none 0 0)) 29)).setRow g3 (blc B2 (.slice A3 B2.txs.length c3)) = V3 at *
  go_wp2_with fail
  refine (H4.out _ (HB.out.nx NN.out)).mono ?_
  rintro e w4 ⟨tv4, rfl, bb4, n4⟩
  have bl4 := bb4
  obtain ⟨A4, c4, rfl, -⟩ := bl4.x.elem
  have Z4 := Row.new w4 (BZ (.slice none 0 0)) 29 _ rfl
  have M4 := ((Nx.refl w4).alloc (.cells (BZ (.slice none 0 0)) 29)).setRow (g := w4.heap.size) (blc B2 (.slice A4 B2.txs.length c4)) (Nat.le_refl _)
  have R4 := Lib.hid (Z4.setRow (blc B2 (.slice A4 B2.txs.length c4)))
  have T4 := Lib.hid (bl4.nx M4)
  have x4 := Lib.hid (bs.out B2 (.slice A4 B2.txs.length c4) bl4.h)
  have y4 := Lib.hid (be.out B2 (.slice A4 B2.txs.length c4) bl4.h)
  have z4 := Lib.hid (bo.out B2 A4 B2.txs.length c4)
  replace R1 := Lib.hid (R1.out.nx (n4.trans M4))
  replace R2 := Lib.hid (R2.out.nx (n4.trans M4))
  replace R3 := Lib.hid (R3.out.nx (n4.trans M4))
  replace T1 := Lib.hid (T1.out.nx (n4.trans M4))
  replace T2 := Lib.hid (T2.out.nx (n4.trans M4))
  replace T3 := Lib.hid (T3.out.nx (n4.trans M4))
  replace NN := Lib.hid (NN.out.trans (n4.trans M4))
  clear bl4 bb4 n4 M4
  go_upto_region 5 with (refine wpList_store_row rfl 29 (.tmp 13) (.tmp 37) rfl w4.heap.size (blc B2 (.slice A4 B2.txs.length c4)) rfl rfl 29 (BZ (.slice none 0 0)) Z4 x4.out y4.out z4.out ?_)
  generalize hg4 : w4.heap.size = g4 at *
  clear Z4 hg4
  generalize (w4.alloc (.cells (BZ (.slice none 0 0)) 29)).setRow g4 (blc B2 (.slice A4 B2.txs.length c4)) = V4 at *
  go_wp2_with (first | (refine wpList_load_row rfl 29 (.tmp 5) rfl g1 rfl 29 (blc B1 (.slice A1 B1.txs.length c1)) (0, 0) _ R1.out Tryz.underlying29 rfl x1.out ?_) | (refine wpList_load_row rfl 29 (.tmp 8) rfl g2 rfl 29 (blc B1 (.slice A2 B1.txs.length c2)) (0, 0) _ R2.out Tryz.underlying29 rfl x2.out ?_))
  refine (HSM.out _ _ _ T1.out T2.out).mono ?_
  rintro e w5 ⟨rfl, n5⟩
  replace R3 := Lib.hid (R3.out.nx n5)
  replace R4 := Lib.hid (R4.out.nx n5)
  replace T3 := Lib.hid (T3.out.nx n5)
  replace T4 := Lib.hid (T4.out.nx n5)
  replace NN := Lib.hid (NN.out.trans n5)
  clear n5 R1 R2 T1 T2
  go_wp2_with (first | (refine wpList_g (by rfl) fun K hK => wp_load_row_of (some 53) rfl 29 (.tmp 11) rfl g3 rfl 29 (blc B2 (.slice A3 B2.txs.length c3)) _ R3.out Tryz.underlying29 rfl x3.out (hK _ _ ?_)) | (refine wpList_g (by rfl) fun K hK => wp_load_row_of (some 54) rfl 29 (.tmp 13) rfl g4 rfl 29 (blc B2 (.slice A4 B2.txs.length c4)) _ R4.out Tryz.underlying29 rfl x4.out (hK _ _ ?_)))
  refine (HSN.out _ _ _ T3.out T4.out).mono ?_
  rintro e w6 ⟨rfl, n6⟩
  replace NN := Lib.hid (NN.out.trans n6)
  clear n6 R3 R4 T3 T4
  go_wp2_with fail
  refine (HW.out _ (HKK.out.nx NN.out) (HG.out.nx NN.out)).mono ?_
  rintro e w7 ⟨rfl, n7⟩
  replace NN := Lib.hid (NN.out.trans n7)
  clear n7
  go_wp2_with fail
  go_ret
  exact ⟨rfl, NN.out⟩
end Go.Proofs.YtejeekbpeinioaaGreatDoor
