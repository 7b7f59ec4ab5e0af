/- LAYER 10, the document's: Ids, Sealed. -/
import Derived.Test.YtejeekbpeinioaaGreatDoorBkR2
import Derived.Test.YtejeekbpeinioaaGreatDoorBk6
namespace Go.Proofs.YtejeekbpeinioaaGreatDoor
open Go Go.RowKit
set_option linter.unusedVariables false
set_option linter.unusedSimpArgs false
set_option linter.unusedVariables false
set_option linter.unusedSimpArgs false

theorem ids_snoc (l : List Txn) (j : Nat) (h : j < l.length) : (l.take (j + 1)).map idH = (l.take j).map idH ++ [idH l[j]] := by
  rw [List.take_succ_eq_append_getElem h, List.map_append]
  rfl
set_option maxRecDepth 100000 in
set_option maxHeartbeats 8000000 in
theorem rbids_any (tv : Value) (B : Blk) (w : World) (h : BlAt w tv B) :
    Calls Tryz.prog 12 #[.agg (blc B tv)] w fun e w' => ∃ v, e = .returned (.tuple #[v, .int .i64 (liE B.txs)]) ∧ RdE elH w' v (idsL B.txs) ∧ Nx w w' := by
  have HBA := Lib.hid h
  obtain ⟨A, c, rfl, hc1, hc2, hel⟩ := h.x.elem
  have HEL := Lib.hid hel
  have R0 := Row.new w (blc B (.slice A B.txs.length c)) 29 _ rfl
  have HK67 := Lib.hid (blc_v B (.slice A B.txs.length c) h.h)
  have NW := Lib.hid ((Nx.refl w).alloc (.cells (blc B (.slice A B.txs.length c)) 29))
  have bsz := Lib.hid (blocksz B (.slice A B.txs.length c) h.h)
  have HLI := Lib.hid (fun w h => blist_any (.slice A B.txs.length c) B w h)
  obtain ⟨hz, hzs'⟩ := zero_of_info info_hash'
  have LZ := Lib.hid (show (List.replicate 32 (0 : UInt8)).length = 32 from List.length_replicate)
  have IH3 := info_hash3
  have IH3Z := info_hash3z
  replace IH3 := Lib.hid IH3
  replace IH3Z := Lib.hid IH3Z
  generalize List.replicate 32 (0 : UInt8) = ZZ at *
  clear h hel hc1 hc2
  cases hl : lisT B.txs
  · rw [hl] at HLI
    obtain ⟨y1, y2⟩ := li_no hl
    replace y1 := Lib.hid y1
    replace y2 := Lib.hid y2
    clear hl
    go_enter Tryz.func12, Tryz.ntmps12
    go_wp2_with (first | (refine wpList_load_row rfl 29 (.tmp 1) rfl w.heap.size rfl 29 (blc B (.slice A B.txs.length c)) (0, 0) _ R0 Tryz.underlying29 rfl bsz.out ?_))
    refine (HLI.out _ (HBA.out.nx NW.out)).mono ?_
    rintro e w1 ⟨rfl, n1⟩
    have N1 := Lib.hid (NW.out.trans n1)
    clear n1
    go_wp2_with fail
    go_ret2
    exact ⟨.slice none 0 0, by rw [y1.out]; rfl, by rw [y2.out]; exact RdE.nil _, N1.out⟩
  · rw [hl] at HLI
    obtain ⟨m1, m2, m3⟩ := lisT_parts hl
    have HL2 := Lib.hid m2
    have HMA := Lib.hid m3
    obtain ⟨y1, y2⟩ := li_yes hl
    replace y1 := Lib.hid y1
    replace y2 := Lib.hid y2
    have HSN := Lib.hid (fun j hj => ids_snoc B.txs j hj)
    clear hl m1 m2 m3
    go_enter Tryz.func12, Tryz.ntmps12
    go_wp2_with (first | (refine wpList_load_row rfl 29 (.tmp 1) rfl w.heap.size rfl 29 (blc B (.slice A B.txs.length c)) (0, 0) _ R0 Tryz.underlying29 rfl bsz.out ?_))
    refine (HLI.out _ (HBA.out.nx NW.out)).mono ?_
    rintro e W ⟨rfl, n1⟩
    have N1 := Lib.hid (NW.out.trans n1)
    have K0 := Lib.hid (R0.nx n1)
    clear n1 R0 NW HLI
    go_wp2_with fail
    go_loopw [4, 5] (fun bx iv wr => ∃ (j : Nat), iv = .int .i64 (j : Int) ∧ j ≤ B.txs.length ∧ Hid (OwnE elH (w.heap.size + 1) wr bx ((B.txs.take j).map idH)) ∧ Hid (Nx w wr) ∧ Hid (Row wr w.heap.size (blc B (.slice A B.txs.length c)) 29)) (fun _ iv _ => B.txs.length - (intOf iv).toNat)
    case atStart => exact ⟨0, rfl, Nat.zero_le _, Lib.hid (OwnE.nil _ _), N1, K0⟩
    case round =>
      clear N1 K0
      obtain ⟨j, rfl, hj, HOX, HN, HR⟩ := hrel
      have k67 := HR.out.cell HK67.out
      by_cases hlt : j < B.txs.length
      · obtain ⟨b, o, cs, rfl, hb, ⟨iv, ov, rfl, hw⟩, hcell⟩ := HEL.out j hlt
        have HTX := Lib.hid (hw wr (GrF.of_nx HN.out))
        have HS := Lib.hid (HSN.out j hlt)
        have hm := HMA.out _ (List.getElem_mem hlt)
        have LH := Lib.hid (idH_length B.txs[j])
        have HJ := Lib.hid hlt
        have HTL : Hid (((B.txs.take j).map idH).length ≤ 16) := Lib.hid (by rw [List.length_map, List.length_take]; have := HL2.out; omega)
        have hlt1 : (j : Int) < (B.txs.length : Int) := by omega
        have hj16 : (j : Int) < 16 := by have := HL2.out; omega
        generalize hq : B.txs[j] = q at *
        clear hq
        obtain ⟨A1, c1, A2, c2, rfl, rfl⟩ := HTX.out.slv
        obtain ⟨k0, k1, k2⟩ := kc3 HN.out hb hcell
        have HP := Lib.hid (fun w h => rtxid_any (.slice A1 q.ins.length c1) (.slice A2 q.outs.length c2) q w h)
        generalize idH q = H at *
        have iH := Lib.hid (hashsz H LH.out)
        have oH := Lib.hid (hashsame ZZ H LZ.out LH.out)
        have MU := Lib.hid (run_mk1h H LH.out)
        clear hlt hj hw hcell hb hm
        go_wp2_with fail
        refine (HP.out _ HTX.out).mono ?_
        rintro e w1 ⟨rfl, n1⟩
        have N1 := Lib.hid (HN.out.trans n1)
        have R1 := Lib.hid (HR.out.nx n1)
        have OX := Lib.hid (HOX.out.nx n1)
        have RX := Row.new w1 (hcel ZZ) 23 _ rfl
        have RX2 := RX.setRow (hcel H)
        have NX1 := Lib.hid (((Nx.refl w1).alloc (.cells (hcel ZZ) 23)).setRow (g := w1.heap.size) (hcel H) (Nat.le_refl _))
        clear n1 HN HR k67 k0 k1 k2 HP HTX HOX
        go_upto_region 8 with (refine wpList_store_row rfl 23 (.tmp 6) (.tmp 25) rfl w1.heap.size (hcel H) rfl rfl 23 (hcel ZZ) RX iH.out oH.out (hcel_one _) ?_)
        clear RX
        have N2 := Lib.hid (N1.out.trans NX1.out)
        have R2 := Lib.hid (R1.out.nx NX1.out)
        have OX2 := Lib.hid (OX.out.nx NX1.out)
        clear N1 R1 OX NX1
        generalize (w1.alloc (.cells (hcel ZZ) 23)).setRow w1.heap.size (hcel H) = W2 at *
        have A0 := Lib.hid ((Nx.refl W2).alloc (.cells (hcel H) 23))
        have NA := Lib.hid (N2.out.trans A0.out)
        have RA := Lib.hid (R2.out.nx A0.out)
        have OA := Lib.hid (OX2.out.nx A0.out)
        have RXU := Lib.hid (RdE.one_h W2 H LH.out)
        clear N2 R2 OX2 A0
        go_wp2_with (first | (refine wpList_load_row rfl 23 (.tmp 6) rfl w1.heap.size rfl 23 (hcel H) (0, 0) _ RX2 Tryz.underlying23 rfl iH.out ?_) | (refine wpList_mk rfl 36 1 #[(0, .tmp 28)] rfl #[(0, .agg (hcel H))] (by kernel_rfl) _ (MU.out _) ?_) | (at_builtin; refine wpList_appE2 elH rfl (.tmp 27) (.tmp 29) 36 rfl (.agg (hcel ZZ)) 32 Tryz.underlying36 IH3.out IH3Z.out (w.heap.size + 1) _ (.slice (some ⟨W2.heap.size, 0, none⟩) 1 1) ((B.txs.take j).map idH) [H] (hfs [H]) rfl rfl OA.out RXU.out (allE_hfs (H32.one LH.out) _ _) ?e1 ?e2 RA.out.lt ?_))
        case e1 => have := HTL.out; simp only [List.length_singleton]; omega
        case e2 => have := HTL.out; simp only [List.length_singleton, maxLen]; omega
        intro v7 w7 o7 b7 g7 e7
        have O7 : Hid (OwnE elH (w.heap.size + 1) w7 v7 ((B.txs.take (j + 1)).map idH)) := Lib.hid (by rw [HS.out]; simpa only [List.map_take] using o7)
        have N7 := Lib.hid (NA.out.app (b7.mono (Nat.le_succ _)))
        have R7 := Lib.hid (Row.blw RA.out b7 (Nat.lt_succ_self _))
        clear o7 b7 g7 e7 OA RXU NA RA RX2
        go_wp2_with fail
        go_roundw
        case rel => exact ⟨j + 1, by go_num, HJ.out, O7, N7, R7⟩
        case measure => have := HJ.out; simp [intOf]; omega
      · obtain rfl : j = B.txs.length := by omega
        have OF := Lib.hid (show RdE elH wr _ (B.txs.map idH) by have := HOX.out.rd; rwa [List.take_of_length_le (Nat.le_refl _)] at this)
        obtain ⟨A5, c5, rfl, -⟩ := OF.out.elem
        clear hlt hj HEL HOX HSN
        go_wp2_with fail
        go_ret2
        exact ⟨.slice A5 (B.txs.map idH).length c5, by rw [y1.out]; rfl, by rw [y2.out]; exact OF.out, HN.out⟩
set_option maxRecDepth 100000 in
set_option maxHeartbeats 8000000 in
theorem rsealed_any (tv : Value) (B : Blk) (w : World) (h : BlAt w tv B) :
    Calls Tryz.prog 19 #[.agg (blc B tv)] w fun e w' => e = .returned (.bool (seB B)) ∧ Nx w w' := by
  have HX := Lib.hid h
  obtain ⟨hz, hzs'⟩ := zero_of_info info_hash'
  have LZ := Lib.hid (show (List.replicate 32 (0 : UInt8)).length = 32 from List.length_replicate)
  generalize List.replicate 32 (0 : UInt8) = ZZ at *
  have RB := Row.new w (blc B tv) 29 _ rfl
  have RB0 := Lib.hid RB
  have N0 := Lib.hid ((Nx.refl w).alloc (.cells (blc B tv) 29))
  have bsz := Lib.hid (blocksz B tv h.h)
  have HI := Lib.hid (fun w h => rbids_any tv B w h)
  have H16 := Lib.hid (idsL_len B.txs)
  have HRT := Lib.hid (fun v w hr => rroot_any v (idsL B.txs) w hr (by have := H16.out; omega))
  have LR := Lib.hid (rootH_length (idsL_32 B.txs))
  have HRL := Lib.hid h.h.r
  have HIB := Lib.hid (fun h => ro_bad (l := B.txs) h)
  have HIF := Lib.hid (fun h h2 => ro_form (l := B.txs) h h2)
  have HIG := Lib.hid (fun h h2 => ro_good (l := B.txs) h h2)
  have HLC := Lib.hid (li_cases B.txs)
  have HRC : Hid (∀ j v, (hcel B.r)[j]? = some v → (blc B tv)[32 + j]? = some v) := Lib.hid (fun j v hv => blc_h _ _ _ _ (hcel_at_r h.h.p j v hv))
  have EQ := Lib.hid (fun w => eq_hash2 (rootH (idsL B.txs)) B.r LR.out h.h.r w)
  have HSE : Hid (seB B = (roB B.txs && decide (roH B.txs = B.r))) := Lib.hid rfl
  clear h
  go_enter Tryz.func19, Tryz.ntmps19
  go_wp2_with (first | (refine wpList_load_row rfl 29 (.tmp 1) rfl w.heap.size rfl 29 (blc B tv) (0, 0) _ RB Tryz.underlying29 rfl bsz.out ?_))
  refine (HI.out _ (HX.out.nx N0.out)).mono ?_
  rintro e w1 ⟨v, rfl, hr, n1⟩
  have N1 := Lib.hid (N0.out.trans n1)
  have RB1 := Lib.hid (RB0.out.nx n1)
  have HRD := Lib.hid hr
  obtain ⟨A1, c1, rfl, -⟩ := hr.elem
  clear n1 hr RB RB0 N0 HI
  go_wp2_with fail
  refine (HRT.out _ _ HRD.out).mono ?_
  rintro e w2 ⟨rfl, n2⟩
  have N2 := Lib.hid (N1.out.trans n2)
  have RB2 := RB1.out.nx n2
  have hne : w.heap.size ≠ w2.heap.size := by have := RB2.lt; omega
  have RX := Row.new w2 (hcel ZZ) 23 _ rfl
  clear n2 N1 RB1 HRT HRD
  by_cases hE : liE B.txs = 0
  · by_cases hB : rootB (idsL B.txs) = true
    · obtain ⟨-, y2, y3⟩ := HIG.out hE hB
      have HS : Hid (seB B = decide (rootH (idsL B.txs) = B.r)) := Lib.hid (by rw [HSE.out, y3, y2]; rfl)
      rw [hE, hB]
      clear y2 y3 hE hB HIB HIF HIG HSE
      generalize rootH (idsL B.txs) = H at *
      generalize decide (H = B.r) = D at *
      have iH := Lib.hid (hashsz H LR.out)
      have iR := Lib.hid (hashsz B.r HRL.out)
      have oH := Lib.hid (hashsame ZZ H LZ.out LR.out)
      have RX2 := RX.setRow (hcel H)
      have RB3 := (RB2.alloc (.cells (hcel ZZ) 23)).setRow_other (k := w2.heap.size) (hcel H) hne
      have HC2 := Lib.hid (fun j v hv => RB3.cell (HRC.out j v hv))
      have N3 := Lib.hid ((N2.out.alloc (.cells (hcel ZZ) 23)).setRow (g := w2.heap.size) (hcel H) N2.out.size)
      clear hne RB2 RB3
      go_wp2_with (first | (refine wpList_store_row rfl 23 (.tmp 5) (.tmp 15) rfl w2.heap.size (hcel H) rfl rfl 23 (hcel ZZ) RX iH.out oH.out (hcel_one _) ?_) | (refine wpList_g (by rfl) fun K hK => ?_; first | (refine wp_load_row_of (some 23) rfl 23 (.tmp 5) rfl w2.heap.size rfl 23 (hcel H) _ RX2 Tryz.underlying23 rfl iH.out (hK _ _ ?_)) | (refine wp_load_at (some 26) rfl 23 (.tmp 25) rfl w.heap.size 32 rfl (hcel B.r) _ HC2.out Tryz.underlying23 rfl iR.out (hK _ _ ?_)) | (refine wp_eql_of (some 27) rfl 23 _ _ _ rfl (hcel H) (hcel B.r) rfl rfl (by kernel_rfl) D (EQ.out _) (hK _ _ ?_))))
      go_ret
      exact ⟨by rw [HS.out]; rfl, N3.out⟩
    · have hB' : rootB (idsL B.txs) = false := by simpa using hB
      obtain ⟨-, -, y3⟩ := HIF.out hE hB'
      have HS : Hid (seB B = false) := Lib.hid (by rw [HSE.out, y3]; rfl)
      rw [hE, hB']
      clear y3 hE hB hB' HIB HIF HIG HSE
      generalize rootH (idsL B.txs) = H at *
      have iH := Lib.hid (hashsz H LR.out)
      have oH := Lib.hid (hashsame ZZ H LZ.out LR.out)
      have N3 := Lib.hid ((N2.out.alloc (.cells (hcel ZZ) 23)).setRow (g := w2.heap.size) (hcel H) N2.out.size)
      clear hne RB2
      go_wp2_with (first | (refine wpList_store_row rfl 23 (.tmp 5) (.tmp 15) rfl w2.heap.size (hcel H) rfl rfl 23 (hcel ZZ) RX iH.out oH.out (hcel_one _) ?_))
      go_ret
      exact ⟨by rw [HS.out]; rfl, N3.out⟩
  · obtain ⟨-, -, y3⟩ := HIB.out hE
    have hE2 : liE B.txs = 2 := by rcases HLC.out with h | h; exact absurd h hE; exact h
    have HS : Hid (seB B = false) := Lib.hid (by rw [HSE.out, y3]; rfl)
    rw [hE2]
    clear y3 hE hE2 HIB HIF HIG HSE
    generalize rootH (idsL B.txs) = H at *
    generalize rootB (idsL B.txs) = D at *
    have iH := Lib.hid (hashsz H LR.out)
    have oH := Lib.hid (hashsame ZZ H LZ.out LR.out)
    have N3 := Lib.hid ((N2.out.alloc (.cells (hcel ZZ) 23)).setRow (g := w2.heap.size) (hcel H) N2.out.size)
    clear hne RB2
    go_wp2_with (first | (refine wpList_store_row rfl 23 (.tmp 5) (.tmp 15) rfl w2.heap.size (hcel H) rfl rfl 23 (hcel ZZ) RX iH.out oH.out (hcel_one _) ?_))
    go_ret
    exact ⟨by rw [HS.out]; rfl, N3.out⟩
end Go.Proofs.YtejeekbpeinioaaGreatDoor
