/- THE LAW BlockFresh. -/
import Derived.Test.YtejeekbpeinioaaGreatDoorBkW
import Derived.Test.YtejeekbpeinioaaGreatDoorBkR7
import Derived.Test.YtejeekbpeinioaaGreatDoorBk9
import Derived.Test.YtejeekbpeinioaaGreatDoorBkF
import Derived.Test.YtejeekbpeinioaaGreatDoorRegSq
namespace Go.Proofs.YtejeekbpeinioaaGreatDoor
open Go Go.RowKit
set_option linter.unusedVariables false
set_option linter.unusedSimpArgs false
set_option linter.unusedVariables false
set_option linter.unusedSimpArgs false

set_option maxRecDepth 100000 in
set_option maxHeartbeats 16000000 in
theorem blockFresh_law {w : World} (v : Value) (l : List UInt8) (h : Rd w v l) (hr0 : l.length ≤ 140737488351232) (hE : EIs w) (hK : KIs w) :
    Calls Tryz.prog 6 #[v] w fun e w' => e = .returned (.bool true) ∧ Nx w w' := by
  have hl : l.length ≤ 140737488355328 := by omega
  have HLL := Lib.hid hl
  have HWI := Lib.hid (fun w h => wide_any v l w h hl)
  have HG1 := Lib.hid (fun w v h g => bget_any v l 0 w h hl g)
  have HG2 := Lib.hid (fun w h => rbget_any v l 0 w h hl)
  have HLE := Lib.hid (fun B w v0 h1 h2 => left_any B v0 v l w h1 h2 hl)
  have HW := Lib.hid (fun w k g => bworks_any w k g)
  have HB := Lib.hid h
  have HG := Lib.hid hE
  have HKK := Lib.hid hK
  obtain ⟨hz, hzs⟩ := zero_of_info info_blz
  have bs := Lib.hid (fun (B : Blk) tv h => blocksz B tv h)
  have be := Lib.hid (fun (B : Blk) tv h => blcsame blZ B (.slice none 0 0) tv HOkZ h)
  have bo := Lib.hid (fun (B : Blk) A n c => blc_one B (.slice A n c) rfl)
  generalize blc blZ = BZ at *
  obtain ⟨A, c, rfl, -⟩ := h
  generalize bgT l 0 = TT at *
  obtain ⟨X, p, E⟩ := TT
  dsimp only at *
  have HSM := Lib.hid (fun u v W h1 h2 => rbsame_yes u v X W h1 h2)
  have HPU := Lib.hid (fun u W h g => bput_any u X W h g)
  have HSE : Hid (∀ {u : Value} W, BlAt W u X → KIs W → EIs W → Calls Tryz.prog 13 #[.agg (blc X u)] W fun e w' => ∃ tv', e = .returned (.tuple #[.agg (blc (slT X) tv'), .int .i64 (roE X.txs)]) ∧ (BlAt w' tv' (slT X) ∧ NewT W.heap.size w' tv' (slT X).txs) ∧ Nx W w') := Lib.hid (fun W x k g => (bseal_any _ X W x k g).mono fun e w' ⟨tv', q1, q2, q3⟩ => ⟨tv', q1, ⟨⟨q2.1, q2.2.rd⟩, q2.2⟩, q3⟩)
  have HREC : Hid (0 < (slT X).txs.length → roE X.txs = 0) := Lib.hid (fun hp => by
    rcases ro_cases X.txs with ⟨a, b⟩ | ⟨a, b⟩
    · exact b
    · rw [sl_no a] at hp; simp [blZ] at hp)
  have NN := Lib.hid (Nx.refl w)
  generalize slT X = SB at *
  generalize roE X.txs = RE at *
  generalize bpT X = PT at *
  generalize bpE X = PE at *
  clear hl hr0 hE hK
  go_enter Tryz.func6, Tryz.ntmps6
  go_wp2_with fail
  refine (HWI.out _ HB.out).mono ?_
  rintro e w1 ⟨v0, rfl, ow, n1⟩
  have OW := Lib.hid ow
  obtain ⟨gv, rfl, -, -⟩ := ow
  replace NN := Lib.hid (NN.out.trans n1)
  clear n1
  go_wp2_with fail
  refine (HG1.out _ _ (OW.out.rd HLL.out) (HG.out.nx NN.out)).mono ?_
  rintro e w4 ⟨tv4, rfl, bb4, n4⟩
  have bl4 := bb4 w4 (Above.of_nx (Nx.refl _))
  obtain ⟨A4, c4, rfl, -⟩ := bl4.x.elem
  have Z4 := Row.new w4 (BZ (.slice none 0 0)) 29 _ rfl
  have M4 := ((Nx.refl w4).alloc (.cells (BZ (.slice none 0 0)) 29)).setRow (g := w4.heap.size) (blc X (.slice A4 X.txs.length c4)) (Nat.le_refl _)
  have R4 := Lib.hid (Z4.setRow (blc X (.slice A4 X.txs.length c4)))
  have T4 := Lib.hid (bl4.nx M4)
  have x4 := Lib.hid (bs.out X (.slice A4 X.txs.length c4) bl4.h)
  have y4 := Lib.hid (be.out X (.slice A4 X.txs.length c4) bl4.h)
  have z4 := Lib.hid (bo.out X A4 X.txs.length c4)
  replace OW := Lib.hid (OW.out.nx (n4.trans M4))
  replace NN := Lib.hid (NN.out.trans (n4.trans M4))
  clear bl4 bb4 n4 M4
  go_upto_region 3 with (refine wpList_store_row rfl 29 (.tmp 4) (.tmp 22) rfl w4.heap.size (blc X (.slice A4 X.txs.length c4)) rfl rfl 29 (BZ (.slice none 0 0)) Z4 x4.out y4.out z4.out ?_)
  generalize hg4 : w4.heap.size = g4 at *
  clear Z4 hg4
  generalize (w4.alloc (.cells (BZ (.slice none 0 0)) 29)).setRow g4 (blc X (.slice A4 X.txs.length c4)) = V4 at *
  go_wp2_with fail
  refine (HG2.out _ (HB.out.nx NN.out)).mono ?_
  rintro e w7 ⟨tv7, rfl, bb7, n7⟩
  have bl7 := bb7 w7 (Above.of_nx (Nx.refl _))
  obtain ⟨A7, c7, rfl, -⟩ := bl7.x.elem
  have Z7 := Row.new w7 (BZ (.slice none 0 0)) 29 _ rfl
  have M7 := ((Nx.refl w7).alloc (.cells (BZ (.slice none 0 0)) 29)).setRow (g := w7.heap.size) (blc X (.slice A7 X.txs.length c7)) (Nat.le_refl _)
  have R7 := Lib.hid (Z7.setRow (blc X (.slice A7 X.txs.length c7)))
  have T7 := Lib.hid (bl7.nx M7)
  have x7 := Lib.hid (bs.out X (.slice A7 X.txs.length c7) bl7.h)
  have y7 := Lib.hid (be.out X (.slice A7 X.txs.length c7) bl7.h)
  have z7 := Lib.hid (bo.out X A7 X.txs.length c7)
  replace R4 := Lib.hid (R4.out.nx (n7.trans M7))
  replace OW := Lib.hid (OW.out.nx (n7.trans M7))
  replace T4 := Lib.hid (T4.out.nx (n7.trans M7))
  replace NN := Lib.hid (NN.out.trans (n7.trans M7))
  clear bl7 bb7 n7 M7
  go_upto_region 4 with (refine wpList_store_row rfl 29 (.tmp 7) (.tmp 28) rfl w7.heap.size (blc X (.slice A7 X.txs.length c7)) rfl rfl 29 (BZ (.slice none 0 0)) Z7 x7.out y7.out z7.out ?_)
  generalize hg7 : w7.heap.size = g7 at *
  clear Z7 hg7
  generalize (w7.alloc (.cells (BZ (.slice none 0 0)) 29)).setRow g7 (blc X (.slice A7 X.txs.length c7)) = V7 at *
  refine wp_region_sq 9 [some 31, some 32, some 33, some 34, some 35, some 36, some 37, some 38, some 39]
    [.eq (.int .i64 E), .eq (.int .i64 E), .eq (.bool false), .eq (.bool false), .eq (.agg (blc X (.slice A4 X.txs.length c4))), .eq (.agg (blc X (.slice A7 X.txs.length c7))), .eq (.bool true), .eq (.bool false), .eq (.bool false)]
    (by kernel_rfl) (by decide) (by decide) ?_ ?_
  · intro x tm wr htm hx i hi hd K hK
    simp only [fillA, List.setIfInBounds_toArray, List.set_cons_zero, List.set_cons_succ] at htm
    subst htm
    have hcs : i = 0 ∨ i = 1 ∨ i = 2 ∨ i = 3 ∨ i = 4 ∨ i = 5 ∨ i = 6 ∨ i = 7 ∨ i = 8 := by omega
    clear hi
    rcases hcs with rfl | rfl | rfl | rfl | rfl | rfl | rfl | rfl | rfl
    · exact sq_of rfl rfl (wp_val_of (some 31) rfl (.int .i64 E) (by kernel_rfl) (hK _ _ rfl (Nx.refl _)))
    · exact sq_of rfl rfl (wp_val_of (some 32) rfl (.int .i64 E) (by kernel_rfl) (hK _ _ rfl (Nx.refl _)))
    · have e0 : x 0 = .int .i64 E := hd 0 (by decide)
      have e1 : x 1 = .int .i64 E := hd 1 (by decide)
      generalize x 0 = y0 at e0 hK ⊢
      subst e0
      generalize x 1 = y1 at e1 hK ⊢
      subst e1
      exact sq_of rfl rfl (wp_nei_ofB (some 33) rfl _ _ _ _ rfl .i64 (E) rfl rfl (hK _ _ rfl (Nx.refl _)))
    · have e2 : x 2 = .bool false := hd 2 (by decide)
      generalize x 2 = y2 at e2 hK ⊢
      subst e2
      exact sq_of rfl rfl (wp_val_of (some 34) rfl (.bool false) (by kernel_rfl) (hK _ _ rfl (Nx.refl _)))
    · have e3 : x 3 = .bool false := hd 3 (by decide)
      generalize x 3 = y3 at e3 hK ⊢
      subst e3
      exact sq_g rfl (by rfl) (wp_load_row_of (some 35) rfl 29 (.tmp 4) rfl (g4) rfl 29 ((blc X (.slice A4 X.txs.length c4))) _ (R4.out.nx hx) Tryz.underlying29 rfl x4.out (hK _ _ rfl (Nx.refl _)))
    · have e3 : x 3 = .bool false := hd 3 (by decide)
      generalize x 3 = y3 at e3 hK ⊢
      subst e3
      exact sq_g rfl (by rfl) (wp_load_row_of (some 36) rfl 29 (.tmp 7) rfl (g7) rfl 29 ((blc X (.slice A7 X.txs.length c7))) _ (R7.out.nx hx) Tryz.underlying29 rfl x7.out (hK _ _ rfl (Nx.refl _)))
    · have e4 : x 4 = .agg (blc X (.slice A4 X.txs.length c4)) := hd 4 (by decide)
      have e5 : x 5 = .agg (blc X (.slice A7 X.txs.length c7)) := hd 5 (by decide)
      have e3 : x 3 = .bool false := hd 3 (by decide)
      generalize x 4 = y4 at e4 hK ⊢
      subst e4
      generalize x 5 = y5 at e5 hK ⊢
      subst e5
      generalize x 3 = y3 at e3 hK ⊢
      subst e3
      refine sq_g rfl (by rfl) (wp_call_of (some 37) rfl 17 #[(.agg (blc X (.slice A4 X.txs.length c4))), (.agg (blc X (.slice A7 X.txs.length c7)))] (by kernel_rfl) (.bool true) ?_ (fun w' h => hK _ w' rfl h))
      exact HSM.out _ _ wr (T4.out.nx hx) (T7.out.nx hx)
    · have e6 : x 6 = .bool true := hd 6 (by decide)
      have e3 : x 3 = .bool false := hd 3 (by decide)
      generalize x 6 = y6 at e6 hK ⊢
      subst e6
      generalize x 3 = y3 at e3 hK ⊢
      subst e3
      exact sq_g rfl (by rfl) (wp_val_of (some 38) rfl (.bool false) (by kernel_rfl) (hK _ _ rfl (Nx.refl _)))
    · have e3 : x 3 = .bool false := hd 3 (by decide)
      have e7 : x 7 = .bool false := hd 7 (by decide)
      generalize x 3 = y3 at e3 hK ⊢
      subst e3
      generalize x 7 = y7 at e7 hK ⊢
      subst e7
      exact sq_of rfl rfl (wp_val_of (some 39) rfl (.bool false) (by kernel_rfl) (hK _ _ rfl (Nx.refl _)))
  · intro x tm wr htm hx hv
    simp only [fillA, List.setIfInBounds_toArray, List.set_cons_zero, List.set_cons_succ] at htm
    subst htm
    have e8 : x 8 = .bool false := hv 8 (by decide)
    rw [e8]
    replace R4 := Lib.hid (R4.out.nx hx)
    replace R7 := Lib.hid (R7.out.nx hx)
    replace T4 := Lib.hid (T4.out.nx hx)
    replace T7 := Lib.hid (T7.out.nx hx)
    replace OW := Lib.hid (OW.out.nx hx)
    replace NN := Lib.hid (NN.out.trans hx)
    clear hx
    obtain ⟨W0, hW0⟩ : ∃ W0, W0 = wr := ⟨_, rfl⟩
    subst hW0
    have NW := Lib.hid (Nx.refl W0)
    have R4B := Lib.hid R4.out
    have HWL : Hid (w.heap.size ≤ W0.heap.size) := Lib.hid NN.out.size
    have KP := R4.out
    go_wp2_with (refine wpList_load_row rfl 29 (.tmp 4) rfl g4 rfl 29 (blc X (.slice A4 X.txs.length c4)) (0, 0) _ R4.out Tryz.underlying29 rfl x4.out ?_)
    refine (HSE.out _ T4.out (HKK.out.nx NN.out) (HG.out.nx NN.out)).mono ?_
    rintro e w10 ⟨tv10, rfl, bb10, n10⟩
    have bl10 := bb10.1
    have ts10 := TxsSp.of bb10.2
    obtain ⟨A10, c10, rfl, -⟩ := bl10.x.elem
    have Z10 := Row.new w10 (BZ (.slice none 0 0)) 29 _ rfl
    have M10 := ((Nx.refl w10).alloc (.cells (BZ (.slice none 0 0)) 29)).setRow (g := w10.heap.size) (blc SB (.slice A10 SB.txs.length c10)) (Nat.le_refl _)
    have R10 := Lib.hid (Z10.setRow (blc SB (.slice A10 SB.txs.length c10)))
    have T10 := Lib.hid (bl10.nx M10)
    have x10 := Lib.hid (bs.out SB (.slice A10 SB.txs.length c10) bl10.h)
    have y10 := Lib.hid (be.out SB (.slice A10 SB.txs.length c10) bl10.h)
    have z10 := Lib.hid (bo.out SB A10 SB.txs.length c10)
    have TS := Lib.hid (ts10.nx M10)
    replace NN := Lib.hid (NN.out.trans (n10.trans M10))
    replace NW := Lib.hid (NW.out.trans (n10.trans M10))
    replace R4 := Lib.hid (R4.out.nx (n10.trans M10))
    clear ts10 KP
    clear bl10 bb10 n10 M10
    go_upto_region 7 with (refine wpList_store_row rfl 29 (.tmp 10) (.tmp 43) rfl w10.heap.size (blc SB (.slice A10 SB.txs.length c10)) rfl rfl 29 (BZ (.slice none 0 0)) Z10 x10.out y10.out z10.out ?_)
    generalize hg10 : w10.heap.size = g10 at *
    clear Z10 hg10
    generalize (w10.alloc (.cells (BZ (.slice none 0 0)) 29)).setRow g10 (blc SB (.slice A10 SB.txs.length c10)) = V10 at *
    go_wp2_with (refine wpList_load_row rfl 29 (.tmp 4) rfl g4 rfl 29 (blc X (.slice A4 X.txs.length c4)) (0, 0) _ R4.out Tryz.underlying29 rfl x4.out ?_)
    refine (HPU.out _ _ (T4.out.nx NW.out) (HG.out.nx NN.out)).mono ?_
    rintro e u5 ⟨r, rfl, o5, n5⟩
    have O5 := Lib.hid o5
    have N5 := Lib.hid n5
    obtain ⟨A5, c5, rfl, -⟩ := o5.rd
    clear o5 n5
    go_wp2_with fail
    refine (spoil_rl1 _ (u5.heap.size) _ _ u5 O5.out (fun q hq => (own_blk O5.out q hq).2)).mono ?_
    rintro e W8 ⟨rfl, x6⟩
    have K8 := N5.out.app x6.below
    replace NN := Lib.hid (NN.out.trans K8)
    replace NW := Lib.hid (NW.out.trans K8)
    replace R10 := Lib.hid (R10.out.nx K8)
    replace TS := Lib.hid (TS.out.nx K8)
    have HV67 := Lib.hid (blc_v SB (.slice A10 SB.txs.length c10) T10.out.h)
    have HN63 : Hid (SB.txs.length ≤ 9223372036854775807) := Lib.hid (by obtain ⟨_, _, e, h1, h2, -⟩ := T10.out.x.elem; unfold maxLen at h2; omega)
    clear x6 O5 N5 K8 R4 T10
    have k67 := R10.out.cell HV67.out
    go_wp2_with fail
    go_loopw [14] (fun iv wx => ∃ j : Nat, iv = .int .i64 (j : Int) ∧ j ≤ SB.txs.length ∧ Hid (Rl W0.heap.size g10 W8 wx)) (fun iv _ => SB.txs.length - (intOf iv).toNat)
    case atStart => exact ⟨0, rfl, Nat.zero_le _, Lib.hid (Rl.refl _ _ _)⟩
    case round =>
      clear k67
      obtain ⟨j, rfl, hj, HX⟩ := hrel
      have RR := HX.out.row R10.out (Nat.le_refl _)
      have k67 := RR.cell HV67.out
      clear RR
      by_cases hlt : j < SB.txs.length
      · have HRZ := HREC.out (by omega)
        subst HRZ
        obtain ⟨ga, A1, c1, A2, c2, hv, hc, hb1, hb2, hb3, si, so⟩ := TS.out.go j hlt
        injection hv with hv1 hv2 hv3
        subst hv1
        have HJ := Lib.hid hlt
        have hlt1 : (j : Int) < (SB.txs.length : Int) := by omega
        have hj16 : (j : Int) < 16 := by omega
        have HC := Lib.hid hc
        have B1 := Lib.hid hb1
        have B2 := Lib.hid hb2
        have SI := Lib.hid si
        have SO := Lib.hid so
        generalize SB.txs[j] = q at *
        obtain ⟨m0, m1⟩ := HC.out _ HX.out
        clear hlt hj hc hb1 hb2 hb3 si so hv2 hv3
        go_wp2_with fail
        go_loopw [15] (fun iv wx => ∃ k : Nat, iv = .int .i64 (k : Int) ∧ k ≤ q.ins.length ∧ Hid (Rl W0.heap.size g10 W8 wx)) (fun iv _ => q.ins.length - (intOf iv).toNat)
        case atStart => exact ⟨0, rfl, Nat.zero_le _, HX⟩
        case round =>
          clear k67 m0 m1 HX
          obtain ⟨k, rfl, hk, HX⟩ := hrel
          have RR := HX.out.row R10.out (Nat.le_refl _)
          have k67 := RR.cell HV67.out
          clear RR
          obtain ⟨m0, m1⟩ := HC.out _ HX.out
          by_cases hlt : k < q.ins.length
          · obtain ⟨b, o, cc, uv, l', hv, hcu, ho, hq⟩ := SI.out.rl HX.out k hlt
            injection hv with hv1 hv2 hv3
            subst hv1
            have HKK2 := Lib.hid hlt
            have hlt2 : (k : Int) < (q.ins.length : Int) := by omega
            have hk16 : (k : Int) < 9223372036854775807 := by have := B1.out; omega
            have HS := Lib.hid (fun w (h : Own W0.heap.size w uv l') => spoil_rl1 W0.heap.size g10 uv l' w h hq)
            have HO := Lib.hid ho
            obtain ⟨A6, c6, rfl, -⟩ := ho.rd
            clear hlt hk ho hq hv3 hv2
            go_wp2_with fail
            refine (HS.out _ HO.out).mono ?_
            rintro e w8 ⟨rfl, x8⟩
            replace HX := Lib.hid (HX.out.trans x8)
            clear x8 hcu k67 m0 m1
            go_wp2_with fail
            go_roundw
            case rel => exact ⟨k + 1, by go_num, HKK2.out, HX⟩
            case measure => have := HKK2.out; simp [intOf]; omega
          · obtain rfl : k = q.ins.length := by omega
            clear hlt hk SI
            go_wp2_with fail
            go_loopw [16] (fun iv wx => ∃ k : Nat, iv = .int .i64 (k : Int) ∧ k ≤ q.outs.length ∧ Hid (Rl W0.heap.size g10 W8 wx)) (fun iv _ => q.outs.length - (intOf iv).toNat)
            case atStart => exact ⟨0, rfl, Nat.zero_le _, HX⟩
            case round =>
              clear k67 m0 m1 HX
              obtain ⟨k, rfl, hk, HX⟩ := hrel
              have RR := HX.out.row R10.out (Nat.le_refl _)
              have k67 := RR.cell HV67.out
              clear RR
              obtain ⟨m0, m1⟩ := HC.out _ HX.out
              by_cases hlt : k < q.outs.length
              · obtain ⟨b, o, cc, uv, l', hv, hcu, ho, hq⟩ := SO.out.rl HX.out k hlt
                injection hv with hv1 hv2 hv3
                subst hv1
                have HKK2 := Lib.hid hlt
                have hlt2 : (k : Int) < (q.outs.length : Int) := by omega
                have hk16 : (k : Int) < 9223372036854775807 := by have := B2.out; omega
                have HS := Lib.hid (fun w (h : Own W0.heap.size w uv l') => spoil_rl1 W0.heap.size g10 uv l' w h hq)
                have HO := Lib.hid ho
                obtain ⟨A6, c6, rfl, -⟩ := ho.rd
                clear hlt hk ho hq hv3 hv2
                go_wp2_with fail
                refine (HS.out _ HO.out).mono ?_
                rintro e w8 ⟨rfl, x8⟩
                replace HX := Lib.hid (HX.out.trans x8)
                clear x8 hcu k67 m0 m1
                go_wp2_with fail
                go_roundw
                case rel => exact ⟨k + 1, by go_num, HKK2.out, HX⟩
                case measure => have := HKK2.out; simp [intOf]; omega
              · obtain rfl : k = q.outs.length := by omega
                clear hlt hk SO
                go_wp2_with fail
                go_roundw
                case rel => exact ⟨j + 1, by go_num, HJ.out, HX⟩
                case measure => have := HJ.out; simp [intOf]; omega
      · obtain rfl : j = SB.txs.length := by omega
        clear hlt hj TS
        go_upto_region 20 with fail
        have KF := NW.out.app HX.out.below
        have NF := Lib.hid (NN.out.app (HX.out.below.mono HWL.out))
        have R4F := Lib.hid (R4B.out.nx KF)
        have R7F := Lib.hid (R7.out.nx KF)
        have T4F := Lib.hid (T4.out.nx KF)
        have T7F := Lib.hid (T7.out.nx KF)
        have OWF := Lib.hid (OW.out.nx KF)
        clear KF HX R10 NW NN k67
        refine wp_region_sq 12 [some 107, some 108, some 109, some 110, some 111, some 112, some 113, some 114, some 115, some 116, some 117, some 2]
          [.eq (.slice (some ⟨gv, 0, none⟩) l.length (l.length + 3)), .eq (.slice A l.length c), .eq (.bool true), .eq (.bool true), .eq (.agg (blc X (.slice A4 X.txs.length c4))), .eq (.agg (blc X (.slice A7 X.txs.length c7))), .eq (.bool true), .eq (.bool true), .eq (.bool true), .eq (.bool true), .eq (.bool true), .eq (.bool true)]
          (by kernel_rfl) (by decide) (by decide) ?_ ?_
        · intro x tm wr htm hx i hi hd K hK
          simp only [fillA, List.setIfInBounds_toArray, List.set_cons_zero, List.set_cons_succ] at htm
          subst htm
          have hcs : i = 0 ∨ i = 1 ∨ i = 2 ∨ i = 3 ∨ i = 4 ∨ i = 5 ∨ i = 6 ∨ i = 7 ∨ i = 8 ∨ i = 9 ∨ i = 10 ∨ i = 11 := by omega
          clear hi
          rcases hcs with rfl | rfl | rfl | rfl | rfl | rfl | rfl | rfl | rfl | rfl | rfl | rfl
          · exact sq_of rfl rfl (wp_val_of (some 107) rfl (.slice (some ⟨gv, 0, none⟩) l.length (l.length + 3)) (by kernel_rfl) (hK _ _ rfl (Nx.refl _)))
          · exact sq_of rfl rfl (wp_val_of (some 108) rfl (.slice A l.length c) (by kernel_rfl) (hK _ _ rfl (Nx.refl _)))
          · have e0 : x 0 = .slice (some ⟨gv, 0, none⟩) l.length (l.length + 3) := hd 0 (by decide)
            have e1 : x 1 = .slice A l.length c := hd 1 (by decide)
            generalize x 0 = y0 at e0 hK ⊢
            subst e0
            generalize x 1 = y1 at e1 hK ⊢
            subst e1
            refine sq_of rfl rfl (wp_call_of (some 109) rfl 27 #[(.slice (some ⟨gv, 0, none⟩) l.length (l.length + 3)), (.slice A l.length c)] (by kernel_rfl) (.bool true) ?_ (fun w' h => hK _ w' rfl h))
            exact HLE.out _ wr _ (OWF.out.nx hx) (HB.out.nx (NF.out.trans hx))
          · have e2 : x 2 = .bool true := hd 2 (by decide)
            generalize x 2 = y2 at e2 hK ⊢
            subst e2
            exact sq_of rfl rfl (wp_val_of (some 110) rfl (.bool true) (by kernel_rfl) (hK _ _ rfl (Nx.refl _)))
          · have e3 : x 3 = .bool true := hd 3 (by decide)
            generalize x 3 = y3 at e3 hK ⊢
            subst e3
            exact sq_g rfl (by rfl) (wp_load_row_of (some 111) rfl 29 (.tmp 4) rfl (g4) rfl 29 ((blc X (.slice A4 X.txs.length c4))) _ (R4F.out.nx hx) Tryz.underlying29 rfl x4.out (hK _ _ rfl (Nx.refl _)))
          · have e3 : x 3 = .bool true := hd 3 (by decide)
            generalize x 3 = y3 at e3 hK ⊢
            subst e3
            exact sq_g rfl (by rfl) (wp_load_row_of (some 112) rfl 29 (.tmp 7) rfl (g7) rfl 29 ((blc X (.slice A7 X.txs.length c7))) _ (R7F.out.nx hx) Tryz.underlying29 rfl x7.out (hK _ _ rfl (Nx.refl _)))
          · have e4 : x 4 = .agg (blc X (.slice A4 X.txs.length c4)) := hd 4 (by decide)
            have e5 : x 5 = .agg (blc X (.slice A7 X.txs.length c7)) := hd 5 (by decide)
            have e3 : x 3 = .bool true := hd 3 (by decide)
            generalize x 4 = y4 at e4 hK ⊢
            subst e4
            generalize x 5 = y5 at e5 hK ⊢
            subst e5
            generalize x 3 = y3 at e3 hK ⊢
            subst e3
            refine sq_g rfl (by rfl) (wp_call_of (some 113) rfl 17 #[(.agg (blc X (.slice A4 X.txs.length c4))), (.agg (blc X (.slice A7 X.txs.length c7)))] (by kernel_rfl) (.bool true) ?_ (fun w' h => hK _ w' rfl h))
            exact HSM.out _ _ wr (T4F.out.nx hx) (T7F.out.nx hx)
          · have e3 : x 3 = .bool true := hd 3 (by decide)
            have e6 : x 6 = .bool true := hd 6 (by decide)
            generalize x 3 = y3 at e3 hK ⊢
            subst e3
            generalize x 6 = y6 at e6 hK ⊢
            subst e6
            exact sq_of rfl rfl (wp_val_of (some 114) rfl (.bool true) (by kernel_rfl) (hK _ _ rfl (Nx.refl _)))
          · have e7 : x 7 = .bool true := hd 7 (by decide)
            generalize x 7 = y7 at e7 hK ⊢
            subst e7
            exact sq_of rfl rfl (wp_val_of (some 115) rfl (.bool true) (by kernel_rfl) (hK _ _ rfl (Nx.refl _)))
          · have e8 : x 8 = .bool true := hd 8 (by decide)
            generalize x 8 = y8 at e8 hK ⊢
            subst e8
            refine sq_g rfl (by rfl) (wp_call_of (some 116) rfl 8 #[] (by kernel_rfl) (.bool true) ?_ (fun w' h => hK _ w' rfl h))
            exact HW.out wr (HKK.out.nx (NF.out.trans hx)) (HG.out.nx (NF.out.trans hx))
          · have e8 : x 8 = .bool true := hd 8 (by decide)
            have e9 : x 9 = .bool true := hd 9 (by decide)
            generalize x 8 = y8 at e8 hK ⊢
            subst e8
            generalize x 9 = y9 at e9 hK ⊢
            subst e9
            exact sq_of rfl rfl (wp_val_of (some 117) rfl (.bool true) (by kernel_rfl) (hK _ _ rfl (Nx.refl _)))
          · have e10 : x 10 = .bool true := hd 10 (by decide)
            generalize x 10 = y10 at e10 hK ⊢
            subst e10
            exact sq_of rfl rfl (wp_val_of (some 2) rfl (.bool true) (by kernel_rfl) (hK _ _ rfl (Nx.refl _)))
        · intro x tm wr htm hx hv
          simp only [fillA, List.setIfInBounds_toArray, List.set_cons_zero, List.set_cons_succ] at htm
          subst htm
          have e11 : x 11 = .bool true := hv 11 (by decide)
          rw [e11]
          go_wp2_with fail
          go_ret
          exact ⟨rfl, NF.out.trans hx⟩
end Go.Proofs.YtejeekbpeinioaaGreatDoor
