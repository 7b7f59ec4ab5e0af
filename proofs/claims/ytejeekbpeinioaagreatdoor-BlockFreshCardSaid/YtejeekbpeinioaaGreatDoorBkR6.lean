/- LAYER 10, the document's: Seal. -/
import Derived.Test.YtejeekbpeinioaaGreatDoorBkR4
import Derived.Test.YtejeekbpeinioaaGreatDoorBkR3
namespace Go.Proofs.YtejeekbpeinioaaGreatDoor
open Go Go.RowKit
set_option linter.unusedVariables false
set_option linter.unusedSimpArgs false
set_option linter.unusedVariables false
set_option linter.unusedSimpArgs false

theorem sl_yes {B : Blk} (h : roB B.txs = true) : slT B = { B with r := roH B.txs } := by unfold slT; rw [if_pos h]
theorem sl_no {B : Blk} (h : roB B.txs = false) : slT B = blZ := by unfold slT; rw [if_neg (by simp [h])]
theorem blc_root (B : Blk) (tv : Value) (H : HOk B.p B.r B.t B.b B.n) (x : List UInt8) (hx : x.length = 32) : ((blc B tv).toList.take 32 ++ ((hcel x).toList ++ (blc B tv).toList.drop (32 + (hcel x).size))).toArray = blc { B with r := x } tv := by
  have hp := H.p
  have hr := H.r
  rw [hcel_size, hx]
  have e : (blc B tv).toList = bvs B.p ++ (bvs B.r ++ [.int .u32 (B.t : Int), .int .u32 (B.b : Int), .int .u32 (B.n : Int)] ++ [tv]) := by simp [blc, hdl]
  rw [e, List.take_left' (by simp [hp])]
  rw [show bvs B.p ++ (bvs B.r ++ [.int .u32 (B.t : Int), .int .u32 (B.b : Int), .int .u32 (B.n : Int)] ++ [tv]) = (bvs B.p ++ bvs B.r) ++ ([.int .u32 (B.t : Int), .int .u32 (B.b : Int), .int .u32 (B.n : Int)] ++ [tv]) by simp, List.drop_left' (by simp [hp, hr])]
  simp [blc, hdl, hcel]
theorem HOk.root {B : Blk} (H : HOk B.p B.r B.t B.b B.n) {x : List UInt8} (hx : x.length = 32) : HOk B.p x B.t B.b B.n := ⟨H.p, hx, H.t, H.b, H.n⟩
theorem blAt_root {w : World} {tv : Value} {B : Blk} (h : BlAt w tv B) {x : List UInt8} (hx : x.length = 32) : BlAt w tv { B with r := x } := ⟨h.h.root hx, h.x⟩
theorem slT_ok {w : World} {tv : Value} {B : Blk} (h : BlAt w tv B) : ∃ tv', BlAt w tv' (slT B) ∧ (roB B.txs = true → tv' = tv) ∧ (roB B.txs = false → tv' = .slice none 0 0) := by
  cases hr : roB B.txs
  · exact ⟨.slice none 0 0, by rw [sl_no hr]; exact blAt_z w, (fun h => by cases h), fun _ => rfl⟩
  · exact ⟨tv, by rw [sl_yes hr]; exact blAt_root h (roH_length _), (fun _ => rfl), fun h => by cases h⟩
set_option maxRecDepth 100000 in
set_option maxHeartbeats 8000000 in
theorem rbseal_any (tv : Value) (B : Blk) (w : World) (h : BlAt w tv B) :
    Calls Tryz.prog 14 #[.agg (blc B tv)] w fun e w' => ∃ tv', e = .returned (.tuple #[.agg (blc (slT B) tv'), .int .i64 (roE B.txs)]) ∧ BlAt w' tv' (slT B) ∧ Nx w w' := by
  have HX := Lib.hid h
  obtain ⟨hz, hzs'⟩ := zero_of_info info_hash'
  obtain ⟨hz2, hzs2⟩ := zero_of_info info_blz
  have LZ := Lib.hid (show (List.replicate 32 (0 : UInt8)).length = 32 from List.length_replicate)
  generalize List.replicate 32 (0 : UInt8) = ZZ at *
  have bsz := Lib.hid (blocksz B tv h.h)
  have bszZ := Lib.hid (blocksz blZ (.slice none 0 0) HOkZ)
  have oZB := Lib.hid (blc_one blZ (.slice none 0 0) rfl)
  have hsv : tv.oneCell' = true := by obtain ⟨A, c, rfl, -⟩ := h.x.elem; rfl
  have bsR := Lib.hid (fun x (hx : List.length x = 32) => blocksz { B with r := x } tv (h.h.root hx))
  have bsRE := Lib.hid (fun x (hx : List.length x = 32) => blcsame blZ { B with r := x } (.slice none 0 0) tv HOkZ (h.h.root hx))
  have oR := Lib.hid (fun x => blc_one { B with r := x } tv hsv)
  have HROOT := Lib.hid (fun x hx => blc_root B tv h.h x hx)
  have HSZ68 := Lib.hid (blc_size B tv h.h)
  generalize hZB : blc blZ (.slice none 0 0) = ZB at *
  have HZB := Lib.hid hZB
  clear hZB hsv
  have RB := Lib.hid ((Row.new w (blc B tv) 29 _ rfl).alloc (.cells ZB 29))
  have RBP := RB.out
  have RZ := Lib.hid (Row.new2 w (.cells (blc B tv) 29) ZB 29)
  have N0 := Lib.hid (((Nx.refl w).alloc (.cells (blc B tv) 29)).alloc (.cells ZB 29))
  have HI := Lib.hid (fun w h => rbids_any tv B w h)
  have HIB := Lib.hid (fun h => ro_bad (l := B.txs) h)
  have HIF := Lib.hid (fun h h2 => ro_form (l := B.txs) h h2)
  have HIG := Lib.hid (fun h h2 => ro_good (l := B.txs) h h2)
  have HYES := Lib.hid (fun h => sl_yes (B := B) h)
  have HNO := Lib.hid (fun h => sl_no (B := B) h)
  have HLC := Lib.hid (li_cases B.txs)
  have H16 := Lib.hid (idsL_len B.txs)
  have LR := Lib.hid (rootH_length (idsL_32 B.txs))
  have HRT := Lib.hid (fun v w hr => rroot_any v (idsL B.txs) w hr (by have := H16.out; omega))
  clear h
  go_enter Tryz.func14, Tryz.ntmps14
  go_wp2_with (first | (refine wpList_load_row rfl 29 (.tmp 1) rfl w.heap.size rfl 29 (blc B tv) (0, 0) _ RBP Tryz.underlying29 rfl bsz.out ?_))
  refine (HI.out _ (HX.out.nx N0.out)).mono ?_
  rintro e w1 ⟨v, rfl, hr, n1⟩
  have N1 := Lib.hid (N0.out.trans n1)
  have RZ1 := RZ.out.nx n1
  have RB1 := Lib.hid (RB.out.nx n1)
  have HRD := Lib.hid hr
  obtain ⟨A1, c1, rfl, -⟩ := hr.elem
  clear n1 hr RB RBP RZ N0 HI
  by_cases hE : liE B.txs = 0
  · rw [hE]
    have HE := Lib.hid hE
    clear hE
    go_wp2_with fail
    refine (HRT.out _ _ HRD.out).mono ?_
    rintro e w2 ⟨rfl, n2⟩
    have N2 := Lib.hid (N1.out.trans n2)
    have RZ2 := RZ1.nx n2
    have RB2 := RB1.out.nx n2
    have hne : w.heap.size + 1 ≠ w2.heap.size := by have := RZ2.lt; omega
    have hne2 : w.heap.size ≠ w2.heap.size := by have := RB2.lt; omega
    have RX := Row.new w2 (hcel ZZ) 23 _ rfl
    clear n2 N1 RZ1 RB1 HRT HRD
    by_cases hB : rootB (idsL B.txs) = true
    · obtain ⟨y1, y2, y3⟩ := HIG.out HE.out hB
      have HS := Lib.hid (HYES.out y3)
      replace y1 := Lib.hid y1
      rw [hB]
      have HR2 : Hid (roH B.txs = rootH (idsL B.txs)) := Lib.hid y2
      clear y2 y3 hB HIB HIF HIG HYES HNO
      generalize rootH (idsL B.txs) = RH at *
      have iR := Lib.hid (hashsz RH LR.out)
      have oRH := Lib.hid (hashsame ZZ RH LZ.out LR.out)
      have RX2 := RX.setRow (hcel RH)
      have RZ3 := Lib.hid ((RZ2.alloc (.cells (hcel ZZ) 23)).setRow_other (k := w2.heap.size) (hcel RH) hne)
      have RB3 := (RB2.alloc (.cells (hcel ZZ) 23)).setRow_other (k := w2.heap.size) (hcel RH) hne2
      have N3 := Lib.hid ((N2.out.alloc (.cells (hcel ZZ) 23)).setRow (g := w2.heap.size) (hcel RH) N2.out.size)
      have hold : 32 + (hcel RH).size ≤ (blc B tv).size := by rw [hcel_size, LR.out, HSZ68.out]; decide
      have RB4 := RB3.setRow (blc { B with r := RH } tv)
      have RZ4 := RZ3.out.setRow_other (k := w.heap.size) (blc { B with r := RH } tv) (by omega)
      have HRT2 := Lib.hid (HROOT.out RH LR.out)
      have i1 := Lib.hid (bsR.out RH LR.out)
      have i2 := Lib.hid (bsRE.out RH LR.out)
      have i3 := Lib.hid (oR.out RH)
      have BL : Hid (∀ W, Nx w W → BlAt W tv { B with r := RH }) := Lib.hid (fun W n => blAt_root (HX.out.nx n) LR.out)
      have HRT3 : Hid ((List.take 32 (blc B tv).toList ++ (hcel RH).toList ++ List.drop (32 + (hcel RH).size) (blc B tv).toList).toArray = blc { B with r := RH } tv) := Lib.hid (by rw [List.append_assoc]; exact HRT2.out)
      clear hne hne2 RZ2 RB2
      go_upto_region 8 with (first | (refine wpList_store_row rfl 23 (.tmp 6) (.tmp 20) rfl w2.heap.size (hcel RH) rfl rfl 23 (hcel ZZ) RX iR.out oRH.out (hcel_one _) ?_) | (refine wpList_load_row rfl 23 (.tmp 6) rfl w2.heap.size rfl 23 (hcel RH) (0, 0) _ RX2 Tryz.underlying23 rfl iR.out ?_) | (refine wpList_store_part rfl 23 (.tmp 27) (.tmp 25) rfl w.heap.size 32 (hcel RH) rfl rfl 29 (blc B tv) RB3 iR.out hold (hcel_one _) ?_))
      rw [HRT3.out]
      have HBL2 : Hid (blc (slT B) tv = blc { B with r := RH } tv) := Lib.hid (by rw [HS.out, HR2.out])
      have HBS : Hid (slT B = { B with r := RH }) := Lib.hid (by rw [HS.out, HR2.out])
      have N4 := Lib.hid (N3.out.setRow (g := w.heap.size) (blc { B with r := RH } tv) (Nat.le_refl _))
      clear RX RX2 RB3 hold HRT2 HRT3 N3
      generalize blc { B with r := RH } tv = ZC at *
      go_wp2_with (first | (refine wpList_load_row rfl 29 (.tmp 1) rfl w.heap.size rfl 29 ZC (0, 0) _ RB4 Tryz.underlying29 rfl i1.out ?_) | (refine wpList_store_row rfl 29 (.tmp 2) (.tmp 28) rfl (w.heap.size + 1) ZC rfl rfl 29 ZB RZ4 i1.out i2.out i3.out ?_))
      refine bodyPost_ret (v := .tuple #[.agg ZC, .int .i64 0]) ?_ ?_ ?_
      · exact results_cell_row2 Tryz.results14 _ _ (w.heap.size + 1) 29 ZC (0, 0) _ rfl (RZ4.setRow ZC) Tryz.underlying29 rfl i1.out
      · rfl
      · exact ⟨tv, by rw [HBL2.out, y1.out], by rw [HBS.out]; exact BL.out _ (N4.out.setRow _ (Nat.le_succ _)), N4.out.setRow _ (Nat.le_succ _)⟩
    · have hB' : rootB (idsL B.txs) = false := by simpa using hB
      obtain ⟨y1, y2, y3⟩ := HIF.out HE.out hB'
      have HS := Lib.hid (HNO.out y3)
      replace y1 := Lib.hid y1
      rw [hB']
      clear y2 y3 hB hB' HIB HIF HIG HYES HNO
      generalize rootH (idsL B.txs) = RH at *
      have iR := Lib.hid (hashsz RH LR.out)
      have oRH := Lib.hid (hashsame ZZ RH LZ.out LR.out)
      have RZ3 := (RZ2.alloc (.cells (hcel ZZ) 23)).setRow_other (k := w2.heap.size) (hcel RH) hne
      have N3 := Lib.hid ((N2.out.alloc (.cells (hcel ZZ) 23)).setRow (g := w2.heap.size) (hcel RH) N2.out.size)
      clear hne hne2 RZ2 RB2
      go_wp2_with (first | (refine wpList_store_row rfl 23 (.tmp 6) (.tmp 20) rfl w2.heap.size (hcel RH) rfl rfl 23 (hcel ZZ) RX iR.out oRH.out (hcel_one _) ?_) | (refine wpList_store_row rfl 29 (.tmp 2) (.tmp 24) rfl (w.heap.size + 1) ZB rfl rfl 29 ZB RZ3 bszZ.out rfl oZB.out ?_))
      refine bodyPost_ret (v := .tuple #[.agg ZB, .int .i64 5]) ?_ ?_ ?_
      · exact results_cell_row2 Tryz.results14 _ _ (w.heap.size + 1) 29 ZB (0, 0) _ rfl (RZ3.setRow ZB) Tryz.underlying29 rfl bszZ.out
      · rfl
      · exact ⟨.slice none 0 0, by rw [HS.out, HZB.out, y1.out], by rw [HS.out]; exact blAt_z _, N3.out.setRow _ (Nat.le_succ _)⟩
  · obtain ⟨y1, y2, y3⟩ := HIB.out hE
    have HS := Lib.hid (HNO.out y3)
    have hE2 : liE B.txs = 2 := by rcases HLC.out with h | h; exact absurd h hE; exact h
    rw [hE2] at y1 ⊢
    replace y1 := Lib.hid y1
    clear y2 y3 hE hE2 HIB HIF HIG HYES HNO
    go_wp2_with (first | (refine wpList_store_row rfl 29 (.tmp 2) (.tmp 15) rfl (w.heap.size + 1) ZB rfl rfl 29 ZB RZ1 bszZ.out rfl oZB.out ?_))
    refine bodyPost_ret (v := .tuple #[.agg ZB, .int .i64 2]) ?_ ?_ ?_
    · exact results_cell_row2 Tryz.results14 _ _ (w.heap.size + 1) 29 ZB (0, 0) _ rfl (RZ1.setRow ZB) Tryz.underlying29 rfl bszZ.out
    · rfl
    · exact ⟨.slice none 0 0, by rw [HS.out, HZB.out, y1.out], by rw [HS.out]; exact blAt_z _, N1.out.setRow _ (Nat.le_succ _)⟩
end Go.Proofs.YtejeekbpeinioaaGreatDoor
