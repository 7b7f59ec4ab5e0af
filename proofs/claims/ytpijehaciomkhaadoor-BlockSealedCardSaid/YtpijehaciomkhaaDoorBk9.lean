/- LAYER 10: Seal of the program. -/
import Derived.Test.YtpijehaciomkhaaDoorBi
import Derived.Deep.RegionWith
namespace Go.Proofs.YtpijehaciomkhaaDoor
open Go Go.RowKit
set_option linter.unusedVariables false
set_option linter.unusedSimpArgs false
set_option linter.unusedVariables false
set_option linter.unusedSimpArgs false

set_option maxRecDepth 100000 in
set_option maxHeartbeats 8000000 in
theorem bseal_any (tv : Value) (B : Blk) (w : World) (h : BlAt w tv B) (hk : KIs w) (hg : EIs w) :
    Calls Tryd.prog 6 #[.agg (blc B tv)] w fun e w' => ∃ tv', e = .returned (.tuple #[.agg (blc (slT B) tv'), .int .i64 (roE B.txs)]) ∧ (HOk (slT B).p (slT B).r (slT B).t (slT B).b (slT B).n ∧ NewT w.heap.size w' tv' (slT B).txs) ∧ Nx w w' := by
  have HX := Lib.hid h
  have HG := Lib.hid hg
  have HK := Lib.hid hk
  obtain ⟨A, c, rfl, hc1, hc2, hel⟩ := h.x.elem
  have HEL := Lib.hid hel
  obtain ⟨hz, hzs'⟩ := zero_of_info info_hash'
  obtain ⟨hz2, hzs2⟩ := zero_of_info info_blz
  have LZ := Lib.hid (show (List.replicate 32 (0 : UInt8)).length = 32 from List.length_replicate)
  generalize List.replicate 32 (0 : UInt8) = ZZ at *
  have bsz := Lib.hid (blocksz B (.slice A B.txs.length c) h.h)
  have hsz := Lib.hid (headsz B.p B.r B.t B.b B.n h.h.p h.h.r)
  have bszZ := Lib.hid (blocksz blZ (.slice none 0 0) HOkZ)
  have oZB := Lib.hid (blc_one blZ (.slice none 0 0) rfl)
  have HO := Lib.hid h.h
  have HK67 := Lib.hid (blc_v B (.slice A B.txs.length c) h.h)
  have HHC : Hid (∀ j v, (hdc B.p B.r B.t B.b B.n)[j]? = some v → (blc B (.slice A B.txs.length c))[j]? = some v) := Lib.hid (fun j v hv => blc_h _ _ _ _ hv)
  have HI := Lib.hid (fun w h k g => rootOf_any (.slice A B.txs.length c) B w h k g)
  have LH := Lib.hid (roH_length B.txs)
  have HCS := Lib.hid (ro_cases B.txs)
  have HYES := Lib.hid (fun h => sl_yes (B := B) h)
  have HNO := Lib.hid (fun h => sl_no (B := B) h)
  generalize hZB : blc blZ (.slice none 0 0) = ZB at *
  have HZB := Lib.hid hZB
  clear hZB
  have RB := Lib.hid ((Row.new w (blc B (.slice A B.txs.length c)) 29 _ rfl).alloc (.cells ZB 29))
  have RBP := RB.out
  have RZ := Lib.hid (Row.new2 w (.cells (blc B (.slice A B.txs.length c)) 29) ZB 29)
  have N0 := Lib.hid (((Nx.refl w).alloc (.cells (blc B (.slice A B.txs.length c)) 29)).alloc (.cells ZB 29))
  clear h hk hg hel
  go_enter Tryd.func6, Tryd.ntmps6
  go_wp2_with (first | (refine wpList_load_row rfl 29 (.tmp 1) rfl w.heap.size rfl 29 (blc B (.slice A B.txs.length c)) (0, 0) _ RBP Tryd.underlying29 rfl bsz.out ?_))
  refine (HI.out _ (HX.out.nx N0.out) (HK.out.nx N0.out) (HG.out.nx N0.out)).mono ?_
  rintro e w1 ⟨rfl, n1⟩
  have N1 := Lib.hid (N0.out.trans n1)
  have RZ1 := RZ.out.nx n1
  have RB1 := Lib.hid (RB.out.nx n1)
  have RX := Row.new w1 (hcel ZZ) 23 _ rfl
  have hne : w.heap.size + 1 ≠ w1.heap.size := by have := RZ1.lt; omega
  have hne2 : w.heap.size ≠ w1.heap.size := by have := RB1.out.lt; omega
  clear n1 RB RBP RZ N0 HI
  generalize hHH : roH B.txs = RH at *
  have HRH := Lib.hid hHH
  clear hHH
  have iR := Lib.hid (hashsz RH LH.out)
  have oRH := Lib.hid (hashsame ZZ RH LZ.out LH.out)
  have RX2 := Lib.hid (RX.setRow (hcel RH))
  have RZ2 := Lib.hid ((RZ1.alloc (.cells (hcel ZZ) 23)).setRow_other (k := w1.heap.size) (hcel RH) hne)
  have RB2 := Lib.hid ((RB1.out.alloc (.cells (hcel ZZ) 23)).setRow_other (k := w1.heap.size) (hcel RH) hne2)
  have N2 := Lib.hid ((N1.out.alloc (.cells (hcel ZZ) 23)).setRow (g := w1.heap.size) (hcel RH) N1.out.size)
  have RZP := RZ2.out
  clear RZ1 RB1 N1 hne hne2
  rcases HCS.out with ⟨hb, he⟩ | ⟨hb, he⟩
  · rw [he]
    have HRE := Lib.hid he
    have HS := Lib.hid (HYES.out hb)
    have HLI : Hid (lisT B.txs = true) := Lib.hid (by unfold roB at hb; simp at hb; exact hb.1)
    obtain ⟨m1, m2, m3⟩ := lisT_parts HLI.out
    have HL1 := Lib.hid m1
    have HL2 := Lib.hid m2
    have HMA := Lib.hid m3
    clear hb he HCS HYES HNO m1 m2 m3
    go_upto_region 4 with (refine wpList_store_row rfl 23 (.tmp 4) (.tmp 14) rfl w1.heap.size (hcel RH) rfl rfl 23 (hcel ZZ) RX iR.out oRH.out (hcel_one _) ?_)
    generalize hg4 : w1.heap.size = g4 at *
    clear RX RZP hg4
    generalize (w1.alloc (.cells (hcel ZZ) 23)).setRow g4 (hcel RH) = W at *
    have hmk := run_mktx B.txs.length (by have := HL2.out; omega)
    have HLD : Hid (∀ j v, (hdc B.p B.r B.t B.b B.n)[j]? = some v → W.cell? ⟨w.heap.size, 0 + j, none⟩ = some v) := Lib.hid (fun j v hv => by rw [Nat.zero_add]; exact RB2.out.cell (HHC.out j v hv))
    have k67 := RB2.out.cell HK67.out
    clear hmk k67 HLD
    have HMK := Lib.hid (fun w => run_mktx B.txs.length (by have := HL2.out; omega) w)
    have HLD : Hid (∀ wr, Nx W wr → ∀ j v, (hdc B.p B.r B.t B.b B.n)[j]? = some v → wr.cell? ⟨w.heap.size, 0 + j, none⟩ = some v) := Lib.hid (fun wr hn j v hv => by rw [Nat.zero_add]; exact (RB2.out.nx hn).cell (HHC.out j v hv))
    have HRUN := Lib.hid (fun A w => run_blk B.p B.r HO.out.p HO.out.r B.t B.b B.n B.txs A B.txs.length B.txs.length w)
    have HB1 := Lib.hid (fun v => blocksz B v HO.out)
    have HB2 : Hid (∀ v, (blc B v).size = ZB.size) := Lib.hid (fun v => by rw [← HZB.out]; exact blcsame B blZ v (.slice none 0 0) HO.out HOkZ)
    have HB3 : Hid (∀ A k c, (blc B (.slice A k c)).all (·.oneCell') = true) := Lib.hid (fun A k c => blc_one B _ rfl)
    refine wp_region_J 9 [[], [0], [], [2], [3], [4, 4], [1, 5], [], [7, 6, 0, 1, 2, 3, 4, 5, 6, 7]] [some 20, some 21, some 22, some 23, some 24, some 25, some 26, some 6, none] (J4 W w.heap.size B.txs.length (hdc B.p B.r B.t B.b B.n) (.slice A B.txs.length c) (blc B) (txzs B.txs.length).toArray ZB)
      (by kernel_rfl) (by kernel_rfl) (hord_of (by decide)) (by kernel_rfl) (by decide) (by decide) ?_ ?_ ?_
    · intro x _
      exact ⟨0, 0, fun j _ h => (by cases h), (Nx.refl _).drew, fun h => (by cases h), fun h => (by cases h), fun h => (by cases h)⟩
    · intro L x tm wr htm hJ hcl i hi hi0 hd hlate K hK
      obtain ⟨ga, gb, h1, h2, h3, h4, h5⟩ := hJ
      simp only [fillA, List.setIfInBounds_toArray, List.set_cons_zero, List.set_cons_succ] at htm
      subst htm
      have hcs : i = 0 ∨ i = 1 ∨ i = 2 ∨ i = 3 ∨ i = 4 ∨ i = 5 ∨ i = 6 ∨ i = 7 ∨ i = 8 := by omega
      clear hi
      rcases hcs with rfl | rfl | rfl | rfl | rfl | rfl | rfl | rfl | rfl
      · exact wpOp_of rfl rfl (wp_val_of (some 20) rfl (.pointer (some ⟨w.heap.size, 0, none⟩)) (by kernel_rfl) (hK _ _ (j4_pure 0 (by decide) (by decide) (by decide) h1 h2 h3 h4 h5)))
      · have e0 : x 0 = .pointer (some ⟨w.heap.size, 0, none⟩) := h1 0 (by decide) (hd 0 (by decide))
        generalize x 0 = y0 at e0 hK ⊢
        subst e0
        exact wpOp_of rfl rfl (wp_load_at (some 21) rfl 26 (.tmp 20) rfl w.heap.size 0 rfl (hdc B.p B.r B.t B.b B.n) _ (HLD.out wr h2) Tryd.underlying26 rfl hsz.out (hK _ _ (j4_pure 1 (by decide) (by decide) (by decide) h1 h2 h3 h4 h5)))
      · exact wpOp_of rfl rfl (wp_val_of (some 22) rfl (.pointer (some ⟨w.heap.size, 67, none⟩)) (by kernel_rfl) (hK _ _ (j4_pure 2 (by decide) (by decide) (by decide) h1 h2 h3 h4 h5)))
      · have e2 : x 2 = .pointer (some ⟨w.heap.size, 67, none⟩) := h1 2 (by decide) (hd 2 (by decide))
        generalize x 2 = y2 at e2 hK ⊢
        subst e2
        exact wpOp_of rfl rfl (wp_load_cell (some 23) rfl 27 (.tmp 22) rfl w.heap.size 67 rfl (.slice A B.txs.length c) _ ((Row.nx RB2.out h2).cell HK67.out) Tryd.underlying27 rfl (hK _ _ (j4_pure 3 (by decide) (by decide) (by decide) h1 h2 h3 h4 h5)))
      · have e3 : x 3 = .slice A B.txs.length c := h1 3 (by decide) (hd 3 (by decide))
        generalize x 3 = y3 at e3 hK ⊢
        subst e3
        exact wpOp_of rfl rfl (wp_val_of (some 24) rfl (.int .i64 (B.txs.length : Int)) (by kernel_rfl) (hK _ _ (j4_pure 4 (by decide) (by decide) (by decide) h1 h2 h3 h4 h5)))
      · have e4 : x 4 = .int .i64 (B.txs.length : Int) := h1 4 (by decide) (hd 4 (by decide))
        generalize x 4 = y4 at e4 hK ⊢
        subst e4
        exact wpOp_of rfl rfl (wp_made_of (some 25) rfl 27 (.tmp 24) (.tmp 24) rfl (.int .i64 (B.txs.length : Int)) (.int .i64 (B.txs.length : Int)) rfl rfl _ _ (HMK.out wr) (hK _ _ (j4_make hi0 (hlate 6 (by decide)) (hlate 8 (by decide)) h1 h2 h4)))
      · have e1 : x 1 = .agg (hdc B.p B.r B.t B.b B.n) := h1 1 (by decide) (hd 1 (by decide))
        generalize x 1 = y1 at e1 hK ⊢
        subst e1
        have e5 : x 5 = .slice (some ⟨ga, 0, none⟩) B.txs.length B.txs.length := h1 5 (by decide) (hd 5 (by decide))
        generalize x 5 = y5 at e5 hK ⊢
        subst e5
        exact wpOp_of rfl rfl (wp_bld_of (some 26) rfl 29 #[(0, .tmp 21), (1, .tmp 25)] rfl #[(0, .agg (hdc B.p B.r B.t B.b B.n)), (1, (.slice (some ⟨ga, 0, none⟩) B.txs.length B.txs.length))] (by kernel_rfl) _ (HRUN.out (some ⟨ga, 0, none⟩) wr) (hK _ _ (j4_pure 6 (by decide) (by decide) (by decide) h1 h2 h3 h4 h5)))
      · exact wpOp_of rfl rfl (wp_alloc_of (some 6) rfl 29 rfl ZB hz2 (hK _ _ (j4_alloc hi0 (hlate 8 (by decide)) h1 h2 h3)))
      · have e7 : x 7 = .pointer (some ⟨gb, 0, none⟩) := h1 7 (by decide) (hd 7 (by decide))
        generalize x 7 = y7 at e7 hK ⊢
        subst e7
        have e6 : x 6 = .agg (blc B (.slice (some ⟨ga, 0, none⟩) B.txs.length B.txs.length)) := h1 6 (by decide) (hd 6 (by decide))
        generalize x 6 = y6 at e6 hK ⊢
        subst e6
        have h3b := h3 (hd 5 (by decide))
        have h4b := h4 (hd 7 (by decide))
        rw [hi0] at h4b
        have h5b := h5 (hd 5 (by decide)) (hd 7 (by decide))
        exact wpOp_of rfl rfl (wp_store_row 29 (.tmp 6) (.tmp 26) rfl gb (blc B (.slice (some ⟨ga, 0, none⟩) B.txs.length B.txs.length)) rfl rfl 29 ZB h4b.2 (HB1.out _) (HB2.out _).symm (HB3.out _ _ _) (hK _ _ (j4_store h1 h2 h3b h4b h5b _)))
    · intro L x tm wr htm hJ hall
      obtain ⟨ga, gb, h1, h2, h3, h4, h5⟩ := hJ
      simp only [fillA, List.setIfInBounds_toArray, List.set_cons_zero, List.set_cons_succ] at htm
      subst htm
      have e0 : x 0 = .pointer (some ⟨w.heap.size, 0, none⟩) := h1 0 (by decide) (hall 0 (by decide))
      rw [e0]
      have e1 : x 1 = .agg (hdc B.p B.r B.t B.b B.n) := h1 1 (by decide) (hall 1 (by decide))
      rw [e1]
      have e2 : x 2 = .pointer (some ⟨w.heap.size, 67, none⟩) := h1 2 (by decide) (hall 2 (by decide))
      rw [e2]
      have e3 : x 3 = .slice A B.txs.length c := h1 3 (by decide) (hall 3 (by decide))
      rw [e3]
      have e4 : x 4 = .int .i64 (B.txs.length : Int) := h1 4 (by decide) (hall 4 (by decide))
      rw [e4]
      have e5 : x 5 = .slice (some ⟨ga, 0, none⟩) B.txs.length B.txs.length := h1 5 (by decide) (hall 5 (by decide))
      rw [e5]
      have e6 : x 6 = .agg (blc B (.slice (some ⟨ga, 0, none⟩) B.txs.length B.txs.length)) := h1 6 (by decide) (hall 6 (by decide))
      rw [e6]
      have e7 : x 7 = .pointer (some ⟨gb, 0, none⟩) := h1 7 (by decide) (hall 7 (by decide))
      rw [e7]
      obtain ⟨a1, a2⟩ := h3 (hall 5 (by decide))
      obtain ⟨b1, b2⟩ := h4 (hall 7 (by decide))
      have hab := h5 (hall 5 (by decide)) (hall 7 (by decide))
      rw [hall 8 (by decide)] at b2
      replace b2 : Row wr gb (blc B (.slice (some ⟨ga, 0, none⟩) B.txs.length B.txs.length)) 29 := b2
      clear h1 h3 h4 h5 hall e0 e1 e2 e3 e4 e5 e6 e7
      have HGW : Hid (w.heap.size + 1 < W.heap.size) := Lib.hid RZ2.out.lt
      have RR := RX2.out.nx h2
      have RZ4 := RZ2.out.nx h2
      have N4 := Lib.hid (N2.out.trans h2)
      have HAB := Lib.hid hab
      have A1 := Lib.hid a1
      have B1 := Lib.hid b1
      have hold : 32 + (hcel RH).size ≤ (blc B (.slice (some ⟨ga, 0, none⟩) B.txs.length B.txs.length)).size := by rw [hcel_size, LH.out, blc_size B _ HO.out]; decide
      have HRT3 : Hid ((List.take 32 (blc B (.slice (some ⟨ga, 0, none⟩) B.txs.length B.txs.length)).toList ++ (hcel RH).toList ++ List.drop (32 + (hcel RH).size) (blc B (.slice (some ⟨ga, 0, none⟩) B.txs.length B.txs.length)).toList).toArray = blc { B with r := RH } (.slice (some ⟨ga, 0, none⟩) B.txs.length B.txs.length)) := Lib.hid (by rw [List.append_assoc]; exact blc_root B _ HO.out RH LH.out)
      have HOR : Hid (HOk B.p RH B.t B.b B.n) := Lib.hid (HO.out.root LH.out)
      have RB5 := b2.setRow (blc { B with r := RH } (.slice (some ⟨ga, 0, none⟩) B.txs.length B.txs.length))
      have RA5 := Lib.hid (a2.setRow_other (k := gb) (blc { B with r := RH } (.slice (some ⟨ga, 0, none⟩) B.txs.length B.txs.length)) hab)
      have RZ5 := Lib.hid (RZ4.setRow_other (k := gb) (blc { B with r := RH } (.slice (some ⟨ga, 0, none⟩) B.txs.length B.txs.length)) (by have := HGW.out; omega))
      have N5 := Lib.hid (N4.out.setRow (g := gb) (blc { B with r := RH } (.slice (some ⟨ga, 0, none⟩) B.txs.length B.txs.length)) (by have := HGW.out; omega))
      have RT5 := (RB2.out.nx h2).setRow_other (k := gb) (blc { B with r := RH } (.slice (some ⟨ga, 0, none⟩) B.txs.length B.txs.length)) (by have := HGW.out; omega)
      have k67 := RT5.cell HK67.out
      clear a1 b1 hab h2 RX2 RZ4 N4 RT5 RB2 RZ2 N2 HLD HMK HRUN HB1 HB2 HB3
      go_upto_region 6 with (first | (refine wpList_load_row rfl 23 (.tmp 4) rfl g4 rfl 23 (hcel RH) (0, 0) _ RR Tryd.underlying23 rfl iR.out ?_) | (refine wpList_store_part rfl 23 (.tmp 29) (.tmp 27) rfl gb 32 (hcel RH) rfl rfl 29 (blc B (.slice (some ⟨ga, 0, none⟩) B.txs.length B.txs.length)) b2 iR.out hold (hcel_one _) ?_))
      rw [HRT3.out]
      clear b2 RR hold HRT3
      have Z67 := Lib.hid (blc_v { B with r := RH } (.slice (some ⟨ga, 0, none⟩) B.txs.length B.txs.length) HOR.out)
      have iZ := Lib.hid (blocksz { B with r := RH } (.slice (some ⟨ga, 0, none⟩) B.txs.length B.txs.length) HOR.out)
      have iZE : Hid (ZB.size = (blc { B with r := RH } (.slice (some ⟨ga, 0, none⟩) B.txs.length B.txs.length)).size) := Lib.hid (by rw [← HZB.out]; exact blcsame blZ { B with r := RH } (.slice none 0 0) (.slice (some ⟨ga, 0, none⟩) B.txs.length B.txs.length) HOkZ HOR.out)
      have oZ := Lib.hid (blc_one { B with r := RH } (.slice (some ⟨ga, 0, none⟩) B.txs.length B.txs.length) rfl)
      have HSR : Hid (slT B = { B with r := RH }) := Lib.hid HS.out
      generalize hZC : blc { B with r := RH } (.slice (some ⟨ga, 0, none⟩) B.txs.length B.txs.length) = ZC at *
      have HZC := Lib.hid hZC
      clear hZC
      generalize wr.setRow gb ZC = W5 at *
      have RB5' := Lib.hid RB5
      clear RB5
      have HFL := Lib.hid (txzs_length B.txs.length)
      generalize txzs B.txs.length = FS at *
      go_wp2_with fail
      go_loopw [33] (fun iv wr => ∃ (j : Nat) (fs : List Value), iv = .int .i64 (j : Int) ∧ j ≤ B.txs.length ∧ Hid (fs.length = B.txs.length * 3) ∧ Hid (Row wr ga fs.toArray 39) ∧ Hid (NewL (ga + 1) wr (fs.take (j * 3)) (B.txs.take j)) ∧ Hid (Row wr gb ZC 29) ∧ Hid (Row wr (w.heap.size + 1) ZB 29) ∧ Hid (Nx w wr)) (fun iv _ => B.txs.length - (intOf iv).toNat)
      case atStart => exact ⟨0, FS, rfl, Nat.zero_le _, HFL, RA5, Lib.hid (by rw [Nat.zero_mul, List.take_zero, List.take_zero]; exact NewL.nil _ _), RB5', RZ5, N5⟩
      case round =>
        clear RA5 RB5' RZ5 N5 HFL k67
        obtain ⟨j, fs, rfl, hj, HFS, HRA, HNL, HRC, HRZ, HN⟩ := hrel
        by_cases hlt : j < B.txs.length
        · obtain ⟨b, o, cs, rfl, hb, ⟨iv, ov, rfl, hw⟩, hcell⟩ := HEL.out j hlt
          have HTX := Lib.hid (hw wr (GrF.of_nx HN.out))
          have HSN : Hid (B.txs.take (j + 1) = B.txs.take j ++ [B.txs[j]]) := Lib.hid (List.take_succ_eq_append_getElem hlt)
          have HMJ := Lib.hid (HMA.out _ (List.getElem_mem hlt))
          have HOJ := Lib.hid (HX.out.ok.x _ (List.getElem_mem hlt))
          have HJ := Lib.hid hlt
          have hlt1 : (j : Int) < (B.txs.length : Int) := by omega
          have hj16 : (j : Int) < 16 := by have := HL2.out; omega
          generalize hq : B.txs[j] = q at *
          clear hq
          obtain ⟨A1', c1, A2', c2, rfl, rfl⟩ := HTX.out.slv
          obtain ⟨k0, k1, k2⟩ := kc3 HN.out hb hcell
          have S1 := Lib.hid ((Nx.refl wr).alloc (.cells #[.slice A1' q.ins.length c1, .slice A2' q.outs.length c2, .int .u32 (q.after : Int)] 39))
          have HP := Lib.hid (fun w (h : TxAt w (.slice A1' q.ins.length c1) (.slice A2' q.outs.length c2) q) => txput_any (.slice A1' q.ins.length c1) (.slice A2' q.outs.length c2) q w h.i h.o h.a h.g)
          have HPE : Hid (ptE q = 0) := Lib.hid (by unfold ptE; rw [if_pos HMJ.out])
          have HPT : Hid (ptT q = txB q) := Lib.hid (by unfold ptT; rw [if_pos HMJ.out])
          have HRX := Lib.hid (rd_txB HMJ.out HOJ.out.2 HOJ.out.1)
          have H8 : Hid ((txB q).length ≤ 8000) := Lib.hid (mayT_parts HMJ.out).2.2.2.2
          have HAW : Hid (ga < wr.heap.size) := Lib.hid HRA.out.lt
          clear hlt hj hw hcell hb HMJ HOJ
          go_wp2_with fail
          refine (HP.out _ (HTX.out.nx S1.out)).mono ?_
          rintro e w1 ⟨r, rfl, ho, n1⟩
          rw [HPE.out]
          rw [HPT.out] at ho
          have N1 := Lib.hid (S1.out.trans n1)
          have RA1 := Lib.hid (HRA.out.nx N1.out)
          have RC1 := Lib.hid (HRC.out.nx N1.out)
          have RZ1 := Lib.hid (HRZ.out.nx N1.out)
          have NL1 := Lib.hid (HNL.out.nx N1.out)
          have NN := Lib.hid (HN.out.trans N1.out)
          have HRB := Lib.hid ho.rd
          have HAW1 : Hid (ga + 1 ≤ w1.heap.size) := Lib.hid RA1.out.lt
          have HRED : Hid (∀ wr, Nx w1 wr → Calls Tryd.prog 12 #[r] wr fun e w' => ∃ iv ov, e = .returned (.tuple #[.agg (tcel iv ov q.after), .int .i64 0]) ∧ TxNew (wr.heap.size + 1) w' iv ov q ∧ Nx wr w') := Lib.hid (fun wr h => by
            have := tread_any r (txB q) wr (HRB.out.nx h) (by have := H8.out; omega)
            rw [HRX.out] at this
            exact this)
          have hix := HJ.out
          clear ho n1 S1 HP HTX HRA HRC HRZ HNL HN N1 k0 k1 k2 HRX
          obtain ⟨A3, c3, rfl, -⟩ := HRB.out
          go_upto_region 10 with fail
          have hold : j * 3 + 3 ≤ fs.toArray.size := by have := HFS.out; have := HJ.out; simp only [List.size_toArray]; omega
          refine wp_region_J 10 [[], [0], [], [], [3], [4], [5], [5], [1, 2, 0, 1, 2, 3, 4, 5, 6], [8, 6, 4, 0, 1, 2, 3, 4, 5, 6]] [some 44, some 45, some 46, some 47, some 48, some 43, some 49, some 50, some 51, none] (J10 w1 ga gb B.txs.length j (.slice A3 (txB q).length c3) q fs)
            (by kernel_rfl) (by kernel_rfl) (hord_of (by decide)) (by kernel_rfl) (by decide) (by decide) ?_ ?_ ?_
          · intro x _
            exact ⟨undef, undef, _, fun j _ h => (by cases h), (Nx.refl _).drew, fun h => (by cases h), rfl⟩
          · intro L x tm wr htm hJ hcl i hi hi0 hd hlate K hK
            obtain ⟨iv, ov, wr0, h1, h2, h3, h4⟩ := hJ
            simp only [fillA, List.setIfInBounds_toArray, List.set_cons_zero, List.set_cons_succ] at htm
            subst htm
            have hcs : i = 0 ∨ i = 1 ∨ i = 2 ∨ i = 3 ∨ i = 4 ∨ i = 5 ∨ i = 6 ∨ i = 7 ∨ i = 8 ∨ i = 9 := by omega
            clear hi
            rcases hcs with rfl | rfl | rfl | rfl | rfl | rfl | rfl | rfl | rfl | rfl
            · exact wpOp_of rfl rfl (wp_val_of (some 44) rfl (.pointer (some ⟨gb, 67, none⟩)) (by kernel_rfl) (hK _ _ (j10_pure 0 (by decide) (by decide) h1 h2 h3 h4)))
            · have hw0 : wr = wr0 := by rw [h4, hlate 9 (by decide)]; rfl
              subst hw0
              have e0 : x 0 = .pointer (some ⟨gb, 67, none⟩) := h1 0 (by decide) (hd 0 (by decide))
              generalize x 0 = y0 at e0 hK ⊢
              subst e0
              exact wpOp_of rfl rfl (wp_load_cell (some 45) rfl 27 (.tmp 44) rfl gb 67 rfl (.slice (some ⟨ga, 0, none⟩) B.txs.length B.txs.length) _ ((Row.nx RC1.out h2).cell Z67.out) Tryd.underlying27 rfl (hK _ _ (j10_pure 1 (by decide) (by decide) h1 h2 h3 h4)))
            · exact wpOp_of rfl rfl (wp_val_of (some 46) rfl (.int .i64 (j : Int)) (by kernel_rfl) (hK _ _ (j10_pure 2 (by decide) (by decide) h1 h2 h3 h4)))
            · exact wpOp_of rfl rfl (wp_val_of (some 47) rfl (.slice A3 (txB q).length c3) (by kernel_rfl) (hK _ _ (j10_pure 3 (by decide) (by decide) h1 h2 h3 h4)))
            · have hw0 : wr = wr0 := by rw [h4, hlate 9 (by decide)]; rfl
              subst hw0
              have e3 : x 3 = .slice A3 (txB q).length c3 := h1 3 (by decide) (hd 3 (by decide))
              generalize x 3 = y3 at e3 hK ⊢
              subst e3
              have l5 : L 5 = false := hlate 5 (by decide)
              have l6 : L 6 = false := by
                rcases hq : L 6 with _ | _
                · rfl
                · have := hcl 6 hq 5 (by decide); rw [l5] at this; cases this
              have l9 : L 9 = false := hlate 9 (by decide)
              refine wpOp_of rfl rfl (wp_callp_of (some 48) rfl 12 #[.slice A3 (txB q).length c3] (by kernel_rfl) (fun v w' => ∃ iv ov, v = .tuple #[.agg (tcel iv ov q.after), .int .i64 0] ∧ TxNew (wr.heap.size + 1) w' iv ov q) ((HRED.out wr h2).mono fun e w' ⟨iv', ov', q1, q2, q3⟩ => ⟨_, q1, ⟨iv', ov', rfl, q2⟩, q3⟩) ?_)
              rintro v w' ⟨iv', ov', rfl, q2⟩ q3
              exact hK _ _ (j10_call l5 l6 l9 h1 h2 q3 (q2.mono (by have := h2.size; omega)) hi0)
            · have e4 : x 4 = .tuple #[.agg (tcel iv ov q.after), .int .i64 0] := h1 4 (by decide) (hd 4 (by decide))
              generalize x 4 = y4 at e4 hK ⊢
              subst e4
              exact wpOp_of rfl rfl (wp_val_of (some 43) rfl (.tuple #[.agg (tcel iv ov q.after), .int .i64 0]) (by kernel_rfl) (hK _ _ (j10_pure 5 (by decide) (by decide) h1 h2 h3 h4)))
            · have e5 : x 5 = .tuple #[.agg (tcel iv ov q.after), .int .i64 0] := h1 5 (by decide) (hd 5 (by decide))
              generalize x 5 = y5 at e5 hK ⊢
              subst e5
              exact wpOp_of rfl rfl (wp_val_of (some 49) rfl (.agg (tcel iv ov q.after)) (by kernel_rfl) (hK _ _ (j10_pure 6 (by decide) (by decide) h1 h2 h3 h4)))
            · have e5 : x 5 = .tuple #[.agg (tcel iv ov q.after), .int .i64 0] := h1 5 (by decide) (hd 5 (by decide))
              generalize x 5 = y5 at e5 hK ⊢
              subst e5
              exact wpOp_of rfl rfl (wp_val_of (some 50) rfl (.int .i64 0) (by kernel_rfl) (hK _ _ (j10_pure 7 (by decide) (by decide) h1 h2 h3 h4)))
            · have e1 : x 1 = .slice (some ⟨ga, 0, none⟩) B.txs.length B.txs.length := h1 1 (by decide) (hd 1 (by decide))
              generalize x 1 = y1 at e1 hK ⊢
              subst e1
              have e2 : x 2 = .int .i64 (j : Int) := h1 2 (by decide) (hd 2 (by decide))
              generalize x 2 = y2 at e2 hK ⊢
              subst e2
              refine wpOp_of rfl rfl (wp_ix_of (some 51) rfl 27 39 (.tmp 45) (.tmp 46) rfl Tryd.underlying27 3 Tryd.sizeOf39 ga 0 B.txs.length B.txs.length j (j : Int) rfl rfl rfl HJ.out ?_)
              rw [Nat.zero_add (j * 3)]
              exact hK _ _ (j10_pure 8 (by decide) (by decide) h1 h2 h3 h4)
            · have hw0 : wr = wr0 := by rw [h4, hi0]; rfl
              subst hw0
              have e8 : x 8 = .pointer (some ⟨ga, j * 3, none⟩) := h1 8 (by decide) (hd 8 (by decide))
              generalize x 8 = y8 at e8 hK ⊢
              subst e8
              have e6 : x 6 = .agg (tcel iv ov q.after) := h1 6 (by decide) (hd 6 (by decide))
              generalize x 6 = y6 at e6 hK ⊢
              subst e6
              have h3b := h3 (hd 4 (by decide))
              have hTS : (Tryd.prog.info? 39).map (·.size) = some (tcel iv ov q.after).size := by obtain ⟨B1, d1, rfl⟩ := h3b.i.sl; obtain ⟨B2, d2, rfl⟩ := h3b.o.sl; exact txz _ _ _
              have hT1 : (tcel iv ov q.after).all (·.oneCell') = true := by obtain ⟨B1, d1, rfl⟩ := h3b.i.sl; obtain ⟨B2, d2, rfl⟩ := h3b.o.sl; exact tcl_one (a := q.after) rfl rfl
              exact wpOp_of rfl rfl (wp_store_part 39 (.tmp 51) (.tmp 49) rfl ga (j * 3) (tcel iv ov q.after) rfl rfl 39 fs.toArray (Row.nx RA1.out h2) hTS hold hT1 (hK _ _ (j10_store hi0 h1 h2 h3b _)))
          · intro L x tm wr htm hJ hall
            obtain ⟨iv, ov, wr0, h1, h2, h3, h4⟩ := hJ
            simp only [fillA, List.setIfInBounds_toArray, List.set_cons_zero, List.set_cons_succ] at htm
            subst htm
            have e0 : x 0 = .pointer (some ⟨gb, 67, none⟩) := h1 0 (by decide) (hall 0 (by decide))
            rw [e0]
            have e1 : x 1 = .slice (some ⟨ga, 0, none⟩) B.txs.length B.txs.length := h1 1 (by decide) (hall 1 (by decide))
            rw [e1]
            have e2 : x 2 = .int .i64 (j : Int) := h1 2 (by decide) (hall 2 (by decide))
            rw [e2]
            have e3 : x 3 = .slice A3 (txB q).length c3 := h1 3 (by decide) (hall 3 (by decide))
            rw [e3]
            have e4 : x 4 = .tuple #[.agg (tcel iv ov q.after), .int .i64 0] := h1 4 (by decide) (hall 4 (by decide))
            rw [e4]
            have e5 : x 5 = .tuple #[.agg (tcel iv ov q.after), .int .i64 0] := h1 5 (by decide) (hall 5 (by decide))
            rw [e5]
            have e6 : x 6 = .agg (tcel iv ov q.after) := h1 6 (by decide) (hall 6 (by decide))
            rw [e6]
            have e7 : x 7 = .int .i64 0 := h1 7 (by decide) (hall 7 (by decide))
            rw [e7]
            have e8 : x 8 = .pointer (some ⟨ga, j * 3, none⟩) := h1 8 (by decide) (hall 8 (by decide))
            rw [e8]
            rw [hall 9 (by decide)] at h4
            replace h4 : wr = wr0.setRow ga (nfs fs j iv ov q).toArray := h4
            subst h4
            have TN := h3 (hall 4 (by decide))
            clear h1 h3 hall e0 e1 e2 e3 e4 e5 e6 e7 e8 hold hix
            have X1 := Lib.hid ((RA1.out.nx h2).setRow (nfs fs j iv ov q).toArray)
            have X2 : Hid (NewL (ga + 1) (wr0.setRow ga (nfs fs j iv ov q).toArray) ((nfs fs j iv ov q).take ((j + 1) * 3)) (B.txs.take (j + 1))) := Lib.hid (by
              rw [nfs_take HFS.out HJ.out, HSN.out]
              exact ((NL1.out.nx h2).snoc (TN.mono HAW1.out)).setRow _ (Nat.lt_succ_self _))
            have X3 := Lib.hid ((RC1.out.nx h2).setRow_other (k := ga) (nfs fs j iv ov q).toArray (Ne.symm HAB.out))
            have X4 := Lib.hid ((RZ1.out.nx h2).setRow_other (k := ga) (nfs fs j iv ov q).toArray (by have := A1.out; have := HGW.out; omega))
            have X5 := Lib.hid ((NN.out.trans h2).setRow (g := ga) (nfs fs j iv ov q).toArray (by have := A1.out; have := HGW.out; omega))
            have X6 : Hid ((nfs fs j iv ov q).length = B.txs.length * 3) := Lib.hid (nfs_len HFS.out HJ.out)
            clear TN h2 RA1 NL1 RC1 RZ1 NN
            generalize wr0.setRow ga (nfs fs j iv ov q).toArray = W9 at *
            go_wp2_with fail
            go_roundw
            case rel => exact ⟨j + 1, nfs fs j iv ov q, by go_num, HJ.out, X6, X1, X2, X3, X4, X5⟩
            case measure => have := HJ.out; simp [intOf]; omega
        · obtain rfl : j = B.txs.length := by omega
          have HNT : Hid (NewT (w.heap.size + 2) wr (.slice (some ⟨ga, 0, none⟩) B.txs.length B.txs.length) B.txs) := Lib.hid (.inr ⟨ga, fs, rfl, by have := A1.out; have := HGW.out; omega, HL2.out, HRA.out, by have := HNL.out; rwa [List.take_length, List.take_of_length_le (by rw [HFS.out]; exact Nat.le_refl _)] at this⟩)
          have RCC := HRC.out
          have RZZ := HRZ.out
          clear hlt hj HNL HRC HRZ
          go_wp2_with (first | (refine wpList_load_row rfl 29 (.tmp 6) rfl gb rfl 29 ZC (0, 0) _ RCC Tryd.underlying29 rfl iZ.out ?_) | (refine wpList_store_row rfl 29 (.tmp 2) (.tmp 53) rfl (w.heap.size + 1) ZC rfl rfl 29 ZB RZZ iZ.out iZE.out oZ.out ?_))
          refine bodyPost_ret (v := .tuple #[.agg ZC, .int .i64 0]) ?_ ?_ ?_
          · exact results_cell_row2 Tryd.results6 _ _ (w.heap.size + 1) 29 ZC (0, 0) _ rfl (RZZ.setRow ZC) Tryd.underlying29 rfl iZ.out
          · rfl
          · exact ⟨.slice (some ⟨ga, 0, none⟩) B.txs.length B.txs.length, by rw [HSR.out, HZC.out, HRE.out], by rw [HSR.out]; exact ⟨HOR.out, (HNT.out.setRow _ (by omega)).mono (by omega)⟩, HN.out.setRow _ (by omega)⟩

  · have HS := Lib.hid (HNO.out hb)
    have e2 : ((roE B.txs : Int) != 0) = true := by simp; omega
    generalize hEE : roE B.txs = E at *
    have HEE := Lib.hid hEE
    clear hEE hb he HCS HYES HNO
    go_wp2_with (first | (refine wpList_store_row rfl 23 (.tmp 4) (.tmp 14) rfl w1.heap.size (hcel RH) rfl rfl 23 (hcel ZZ) RX iR.out oRH.out (hcel_one _) ?_) | (refine wpList_store_row rfl 29 (.tmp 2) (.tmp 18) rfl (w.heap.size + 1) ZB rfl rfl 29 ZB RZP bszZ.out rfl oZB.out ?_))
    refine bodyPost_ret (v := .tuple #[.agg ZB, .int .i64 E]) ?_ ?_ ?_
    · exact results_cell_row2 Tryd.results6 _ _ (w.heap.size + 1) 29 ZB (0, 0) _ rfl (RZP.setRow ZB) Tryd.underlying29 rfl bszZ.out
    · rfl
    · exact ⟨.slice none 0 0, by rw [HS.out, HZB.out, HEE.out], by rw [HS.out]; exact ⟨HOkZ, .inl ⟨rfl, rfl⟩⟩, N2.out.setRow _ (Nat.le_succ _)⟩
end Go.Proofs.YtpijehaciomkhaaDoor
