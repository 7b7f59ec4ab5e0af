/- LAYER 10: Get, Read of the program. -/
import Derived.Test.YtejeekbpeinioaaGreatDoorBk7
import Derived.Test.YtejeekbpeinioaaGreatDoorBk5
namespace Go.Proofs.YtejeekbpeinioaaGreatDoor
open Go Go.RowKit
set_option linter.unusedVariables false
set_option linter.unusedSimpArgs false
set_option linter.unusedVariables false
set_option linter.unusedSimpArgs false

theorem bc_cases {l : List UInt8} {at_ : Int} (he : (hgT l at_).e = 0) : (∃ c, c ≠ 0 ∧ bcT l (hgT l at_).at_ = (0, 0, c) ∧ bgT l at_ = (blZ, 0, c)) ∨ (∃ n p, n ≠ 0 ∧ ¬ 16 < n ∧ gc l (hgT l at_).at_ = (n, p, 0) ∧ bcT l (hgT l at_).at_ = (n, p, 0)) := by
  rcases hg : gc l (hgT l at_).at_ with ⟨n, p, c⟩
  by_cases hc : c = 0
  · subst hc
    by_cases hn : n = 0
    · subst hn
      exact .inl ⟨5, by decide, by unfold bcT; rw [hg]; rfl, bg_c rfl he hg⟩
    · by_cases hx : 16 < n
      · exact .inl ⟨3, by decide, by unfold bcT; rw [hg]; simp [hn, hx], bg_d rfl he hg hn hx⟩
      · exact .inr ⟨n, p, hn, hx, rfl, by unfold bcT; rw [hg]; simp [hn, hx]⟩
  · exact .inl ⟨c, hc, by unfold bcT; rw [hg]; simp [hc], bg_b rfl he hg hc⟩
theorem bl_bounds {l : List UInt8} {at_ p q : Int} {n : Nat} {T : List Txn} (he : (hgT l at_).e = 0) (hg : gc l (hgT l at_).at_ = (n, p, 0)) (ht : lsT (tgT l) n p = (T, q, 0)) : 0 ≤ at_ ∧ at_ ≤ q ∧ q ≤ l.length := by
  obtain ⟨i, rfl, a1, a2, a3, a4⟩ := hgT_ok he
  obtain ⟨i2, k, b1, rfl, b2, b3, b4⟩ := gc_got hg
  obtain ⟨k2, c1, c2, c3, c4⟩ := ls_got (tgT l) txB l (fun p hp => by obtain ⟨_, i, k, x1, x2, x3, _, x4⟩ := tx_got hp; exact ⟨i, k, x1, x2, x3, x4⟩) n (i2 + k) (by omega) (by rw [ht])
  rw [ht] at c1
  dsimp only at c1
  omega
theorem info_blz : (Tryz.prog.info? 29).map (fun i => (i.zero, i.size)) = some (some (.agg (blc blZ (.slice none 0 0))), 68) := info_block
theorem run_blk0 (x0 x1 x2 x3 x4 x5 x6 x7 x8 x9 x10 x11 x12 x13 x14 x15 x16 x17 x18 x19 x20 x21 x22 x23 x24 x25 x26 x27 x28 x29 x30 x31 y0 y1 y2 y3 y4 y5 y6 y7 y8 y9 y10 y11 y12 y13 y14 y15 y16 y17 y18 y19 y20 y21 y22 y23 y24 y25 y26 y27 y28 y29 y30 y31 : UInt8) (t b n : Nat) (l : List Txn) (A : Option Addr) (k c : Nat) (w : World) :
    (Instr.build 29 #[(0, .agg (hdc [x0, x1, x2, x3, x4, x5, x6, x7, x8, x9, x10, x11, x12, x13, x14, x15, x16, x17, x18, x19, x20, x21, x22, x23, x24, x25, x26, x27, x28, x29, x30, x31] [y0, y1, y2, y3, y4, y5, y6, y7, y8, y9, y10, y11, y12, y13, y14, y15, y16, y17, y18, y19, y20, y21, y22, y23, y24, y25, y26, y27, y28, y29, y30, y31] t b n)), (1, .slice A k c)]).run Tryz.prog w = .ok (.agg (blc ⟨[x0, x1, x2, x3, x4, x5, x6, x7, x8, x9, x10, x11, x12, x13, x14, x15, x16, x17, x18, x19, x20, x21, x22, x23, x24, x25, x26, x27, x28, x29, x30, x31], [y0, y1, y2, y3, y4, y5, y6, y7, y8, y9, y10, y11, y12, y13, y14, y15, y16, y17, y18, y19, y20, y21, y22, y23, y24, y25, y26, y27, y28, y29, y30, y31], t, b, n, l⟩ (.slice A k c))) w := by kernel_rfl
theorem run_blk (p r : List UInt8) (hp : p.length = 32) (hr : r.length = 32) (t b n : Nat) (l : List Txn) (A : Option Addr) (k c : Nat) (w : World) :
    (Instr.build 29 #[(0, .agg (hdc p r t b n)), (1, .slice A k c)]).run Tryz.prog w = .ok (.agg (blc ⟨p, r, t, b, n, l⟩ (.slice A k c))) w := by
  obtain ⟨x0, x1, x2, x3, x4, x5, x6, x7, x8, x9, x10, x11, x12, x13, x14, x15, x16, x17, x18, x19, x20, x21, x22, x23, x24, x25, x26, x27, x28, x29, x30, x31, rfl⟩ := list32h p hp
  obtain ⟨y0, y1, y2, y3, y4, y5, y6, y7, y8, y9, y10, y11, y12, y13, y14, y15, y16, y17, y18, y19, y20, y21, y22, y23, y24, y25, y26, y27, y28, y29, y30, y31, rfl⟩ := list32h r hr
  exact run_blk0 x0 x1 x2 x3 x4 x5 x6 x7 x8 x9 x10 x11 x12 x13 x14 x15 x16 x17 x18 x19 x20 x21 x22 x23 x24 x25 x26 x27 x28 x29 x30 x31 y0 y1 y2 y3 y4 y5 y6 y7 y8 y9 y10 y11 y12 y13 y14 y15 y16 y17 y18 y19 y20 y21 y22 y23 y24 y25 y26 y27 y28 y29 y30 y31 t b n l A k c w
theorem blcsame (B C : Blk) (u v : Value) (H : HOk B.p B.r B.t B.b B.n) (K : HOk C.p C.r C.t C.b C.n) : (blc B u).size = (blc C v).size := by rw [blc_size B u H, blc_size C v K]
set_option maxRecDepth 100000 in
set_option maxHeartbeats 8000000 in
theorem bget_any (v : Value) (l : List UInt8) (at_ : Int) (w : World) (h : Rd w v l) (hr : l.length ≤ 140737488355328) (hg : EIs w) :
    Calls Tryz.prog 20 #[v, .int .i64 at_] w fun e w' => ∃ tv, e = .returned (.tuple #[.agg (blc (bgT l at_).1 tv), .int .i64 (bgT l at_).2.1, .int .i64 (bgT l at_).2.2]) ∧ (∀ W, Above w.heap.size w' W → BlAt W tv (bgT l at_).1) ∧ Nx w w' := by
  have HRD := Lib.hid h
  have HG := Lib.hid hg
  have HLN := Lib.hid hr
  have HHG := Lib.hid (fun w h => hget_any v l at_ w h hr)
  have HGC := Lib.hid (fun p w h => bgetCount_any v l p w h hr)
  have HGT := Lib.hid (fun p n w h hn => bgetTxs_any v l p n w h hr hn)
  obtain ⟨A, c, rfl, -⟩ := h
  have LP := Lib.hid (hgT_p l at_)
  have LR := Lib.hid (hgT_r l at_)
  have HOKK := Lib.hid (fun he => by obtain ⟨i, _, _, _, h, _⟩ := hgT_ok (l := l) (at_ := at_) he; exact h)
  have HCC := Lib.hid (fun he => bc_cases (l := l) (at_ := at_) he)
  have HBE := Lib.hid (fun he => bg_a (l := l) (at_ := at_) rfl he)
  have HBF := Lib.hid (fun he n p (T : List Txn) q c hg hn hx h3 hc => bg_e (l := l) (at_ := at_) (n := n) (p := p) (T := T) (q := q) (c := c) rfl he hg hn hx h3 hc)
  have HBH := Lib.hid (fun he n p (T : List Txn) q hg hn hx h3 hc => bg_f (l := l) (at_ := at_) (n := n) (p := p) (T := T) (q := q) rfl he hg hn hx h3 hc)
  have HBG := Lib.hid (fun he n p (T : List Txn) q hg hn hx h3 hc => bg_g (l := l) (at_ := at_) (n := n) (p := p) (T := T) (q := q) rfl he hg hn hx h3 hc)
  have HBB := Lib.hid (fun he p q n (T : List Txn) hg ht => bl_bounds (l := l) (at_ := at_) (p := p) (q := q) (n := n) (T := T) he hg ht)
  obtain ⟨hz, hzs⟩ := zero_of_info info_blz
  obtain ⟨hz2, hzs2⟩ := zero_of_info info_head
  have bsz := Lib.hid (blocksz blZ (.slice none 0 0) HOkZ)
  have bsE0 := Lib.hid (fun (B : Blk) tv h => blcsame blZ B (.slice none 0 0) tv HOkZ h)
  have oZB := Lib.hid (blc_one blZ (.slice none 0 0) rfl)
  have HRUN := Lib.hid (fun t b n (T : List Txn) A k c w => run_blk (hgT l at_).p (hgT l at_).r (hgT_p l at_) (hgT_r l at_) t b n T A k c w)
  generalize hZB : blc blZ (.slice none 0 0) = ZB at *
  have HZB := Lib.hid hZB
  clear hZB
  have R0 := Lib.hid (Row.new w ZB 29 _ rfl)
  have N0 := Lib.hid ((Nx.refl w).alloc (.cells ZB 29))
  clear hr hg
  generalize hH : hgT l at_ = H at *
  clear hH
  obtain ⟨P, R, TM, BT, NC, NXT, E⟩ := H
  dsimp only at *
  have hsz := Lib.hid (headsz P R TM BT NC LP.out LR.out)
  have hsm := Lib.hid (headsame Z32h Z32h P R 0 0 0 TM BT NC Z32_lengthh Z32_lengthh LP.out LR.out)
  have hon := Lib.hid (hd_one P R TM BT NC)
  generalize hdc Z32h Z32h 0 0 0 = ZH at *
  go_enter Tryz.func20, Tryz.ntmps20
  go_wp2_with fail
  refine (HHG.out _ (HRD.out.nx N0.out)).mono ?_
  rintro e w1 ⟨rfl, n1⟩
  have R1 := R0.out.nx n1
  have N1 := Lib.hid (N0.out.trans n1)
  have hne : w.heap.size ≠ w1.heap.size := by have := R1.lt; omega
  have RX := Row.new w1 ZH 26 _ rfl
  have NX1 := Lib.hid (((Nx.refl w1).alloc (.cells ZH 26)).setRow (g := w1.heap.size) (hdc P R TM BT NC) (Nat.le_refl _))
  have RH := Lib.hid (RX.setRow (hdc P R TM BT NC))
  have RB := Lib.hid (R1.nx NX1.out)
  have N2 := Lib.hid (N1.out.trans NX1.out)
  clear n1 R0 N0 HHG N1 R1 NX1 hne
  by_cases hE : E = 0
  · subst hE
    go_upto_region 4 with (refine wpList_store_row rfl 26 (.tmp 7) (.tmp 17) rfl w1.heap.size (hdc P R TM BT NC) rfl rfl 26 ZH RX hsz.out hsm.out hon.out ?_)
    generalize hg1 : w1.heap.size = g1 at *
    clear RX hg1
    generalize (w1.alloc (.cells ZH 26)).setRow g1 (hdc P R TM BT NC) = W2 at *
    go_wp2_with fail
    refine (HGC.out _ _ (HRD.out.nx N2.out)).mono ?_
    rintro e w2 ⟨rfl, rfl⟩
    rcases HCC.out (by trivial) with ⟨ce, hc0, hbc, hb⟩ | ⟨n, p, hn0, hn16, hgc, hbc⟩
    · rw [hbc]
      have HB := Lib.hid hb
      have dc : (ce != 0) = true := by simp [hc0]
      have RB2 := RB.out
      clear hc0 hbc hb
      go_wp2_with (refine wpList_store_row rfl 29 (.tmp 4) (.tmp 33) rfl w.heap.size ZB rfl rfl 29 ZB RB2 bsz.out rfl oZB.out ?_)
      refine bodyPost_ret (v := .tuple #[.agg ZB, .int .i64 0, .int .i64 ce]) ?_ ?_ ?_
      · exact results_cell_row3 Tryz.results20 _ _ w.heap.size 29 ZB (0, 0) _ rfl (RB2.setRow ZB) Tryz.underlying29 rfl bsz.out
      · rfl
      · exact ⟨.slice none 0 0, by rw [HB.out, HZB.out], fun W _ => by rw [HB.out]; exact blAt_z _, N2.out.setRow _ (Nat.le_refl _)⟩
    · rw [hbc]
      have HSZ : Hid (w.heap.size < W2.heap.size) := Lib.hid RB.out.lt
      have HGT1 := Lib.hid (HGT.out p n W2 (HRD.out.nx N2.out) (by omega))
      have HN0 := Lib.hid hn0
      have HN16 := Lib.hid hn16
      have HGCC := Lib.hid hgc
      clear hbc hgc hn0 hn16
      go_wp2_with fail
      refine HGT1.out.mono ?_
      rintro e w3 ⟨tv, q, ev, rfl, n3, hc⟩
      have RB3 := RB.out.nx n3
      have RH3 := RH.out.nx n3
      have N3 := Lib.hid (N2.out.trans n3)
      rcases hT : lsT (tgT l) n p with ⟨TL, TQ, TE⟩
      rw [hT] at hc
      dsimp only at hc
      clear n3 HGT1 N2 RB RH HGT
      rcases hc with ⟨rfl, rfl, rfl, hrd⟩ | ⟨hte, rfl, rfl, he⟩
      · have HRT := Lib.hid (hrd w3 (Above.of_nx (Nx.refl _)))
        have HRS := Lib.hid (fun cs W hab => hrd W ((Above.trans (Above.setRow (cs := cs) (Nat.lt_succ_self w.heap.size)) (Above.mono hab (Nat.le_succ _))).mono HSZ.out))
        replace hrd := hrd w3 (Above.of_nx (Nx.refl _))
        obtain ⟨b1, b2, b3⟩ := HBB.out (by trivial) p q n TL HGCC.out hT
        have kx : IntKind.i64.wrap (q - at_) = q - at_ := IntWalk.i64_in _ (by have := HLN.out; omega)
        obtain ⟨A1, c1, rfl, -⟩ := hrd.elem
        clear b1 b2 b3 hrd
        by_cases hx : 20000 < q - at_
        · have HB := Lib.hid (HBH.out (by trivial) n p TL q HGCC.out HN0.out HN16.out hT hx)
          clear hT
          go_wp2_with (refine wpList_store_row rfl 29 (.tmp 4) (.tmp 52) rfl w.heap.size ZB rfl rfl 29 ZB RB3 bsz.out rfl oZB.out ?_)
          refine bodyPost_ret (v := .tuple #[.agg ZB, .int .i64 0, .int .i64 3]) ?_ ?_ ?_
          · exact results_cell_row3 Tryz.results20 _ _ w.heap.size 29 ZB (0, 0) _ rfl (RB3.setRow ZB) Tryz.underlying29 rfl bsz.out
          · rfl
          · exact ⟨.slice none 0 0, by rw [HB.out, HZB.out], fun W _ => by rw [HB.out]; exact blAt_z _, N3.out.setRow _ (Nat.le_refl _)⟩
        · have HB := Lib.hid (HBG.out (by trivial) n p TL q HGCC.out HN0.out HN16.out hT (by omega))
          have HOK := Lib.hid (HOKK.out (by trivial))
          have bsB := Lib.hid (blocksz ⟨P, R, TM, BT, NC, TL⟩ (.slice A1 TL.length c1) HOK.out)
          have bsE := Lib.hid (bsE0.out ⟨P, R, TM, BT, NC, TL⟩ (.slice A1 TL.length c1) HOK.out)
          have oB := Lib.hid (blc_one ⟨P, R, TM, BT, NC, TL⟩ (.slice A1 TL.length c1) rfl)
          have HRU := Lib.hid (fun w => HRUN.out TM BT NC TL A1 TL.length c1 w)
          have BL : Hid (BlAt w3 (.slice A1 TL.length c1) ⟨P, R, TM, BT, NC, TL⟩) := Lib.hid ⟨HOK.out, HRT.out⟩
          have BL2 : Hid (∀ cs W, Above w.heap.size (w3.setRow w.heap.size cs) W → BlAt W (.slice A1 TL.length c1) ⟨P, R, TM, BT, NC, TL⟩) := Lib.hid (fun cs W hab => ⟨HOK.out, HRS.out cs W hab⟩)
          generalize hZC : blc ⟨P, R, TM, BT, NC, TL⟩ (.slice A1 TL.length c1) = ZC at *
          have HZC := Lib.hid hZC
          clear hZC
          clear hT
          go_wp2_with (first | (refine wpList_load_row rfl 26 (.tmp 7) rfl g1 rfl 26 (hdc P R TM BT NC) (0, 0) _ RH3 Tryz.underlying26 rfl hsz.out ?_) | (refine wpList_bld rfl 29 #[(0, .tmp 53), (1, .tmp 54)] rfl #[(0, .agg (hdc P R TM BT NC)), (1, .slice A1 TL.length c1)] (by kernel_rfl) _ (HRU.out _) ?_) | (refine wpList_store_row rfl 29 (.tmp 4) (.tmp 55) rfl w.heap.size ZC rfl rfl 29 ZB RB3 bsB.out bsE.out oB.out ?_))
          refine bodyPost_ret (v := .tuple #[.agg ZC, .int .i64 q, .int .i64 0]) ?_ ?_ ?_
          · exact results_cell_row3 Tryz.results20 _ _ w.heap.size 29 ZC (0, 0) _ rfl (RB3.setRow ZC) Tryz.underlying29 rfl bsB.out
          · rfl
          · exact ⟨.slice A1 TL.length c1, by rw [HB.out, HZC.out], fun W hab => by rw [HB.out]; exact BL2.out _ W hab, N3.out.setRow _ (Nat.le_refl _)⟩
      · have HB := Lib.hid (HBF.out (by trivial) n p TL TQ TE HGCC.out HN0.out HN16.out hT hte)
        have HNU := Lib.hid (fun w h => bnumber_any ev TE w he h)
        clear hT hte
        rcases he with rfl | ⟨i, rfl⟩
        all_goals
          go_wp2_with fail
          refine (HNU.out _ (HG.out.nx N3.out)).mono ?_
          rintro e w4 ⟨rfl, n4⟩
          have RB4 := RB3.nx n4
          have N4 := Lib.hid (N3.out.trans n4)
          clear n4 RB3 RH3 N3
          go_wp2_with (refine wpList_store_row rfl 29 (.tmp 4) (.tmp 45) rfl w.heap.size ZB rfl rfl 29 ZB RB4 bsz.out rfl oZB.out ?_)
          refine bodyPost_ret (v := .tuple #[.agg ZB, .int .i64 0, .int .i64 TE]) ?_ ?_ ?_
          · exact results_cell_row3 Tryz.results20 _ _ w.heap.size 29 ZB (0, 0) _ rfl (RB4.setRow ZB) Tryz.underlying29 rfl bsz.out
          · rfl
          · exact ⟨.slice none 0 0, by rw [HB.out, HZB.out], fun W _ => by rw [HB.out]; exact blAt_z _, N4.out.setRow _ (Nat.le_refl _)⟩
  · have HB := Lib.hid (HBE.out hE)
    have dE : (E != 0) = true := by simp [hE]
    have RB2 := RB.out
    clear hE
    go_wp2_with (first | (refine wpList_store_row rfl 26 (.tmp 7) (.tmp 17) rfl w1.heap.size (hdc P R TM BT NC) rfl rfl 26 ZH RX hsz.out hsm.out hon.out ?_) | (refine wpList_store_row rfl 29 (.tmp 4) (.tmp 22) rfl w.heap.size ZB rfl rfl 29 ZB RB2 bsz.out rfl oZB.out ?_))
    refine bodyPost_ret (v := .tuple #[.agg ZB, .int .i64 0, .int .i64 E]) ?_ ?_ ?_
    · exact results_cell_row3 Tryz.results20 _ _ w.heap.size 29 ZB (0, 0) _ rfl (RB2.setRow ZB) Tryz.underlying29 rfl bsz.out
    · rfl
    · exact ⟨.slice none 0 0, by rw [HB.out, HZB.out], fun W _ => by rw [HB.out]; exact blAt_z _, N2.out.setRow _ (Nat.le_refl _)⟩
theorem br_a {l : List UInt8} (h : (bgT l 0).2.2 ≠ 0) : brT l = (blZ, (bgT l 0).2.2) := by unfold brT; rw [if_pos h]
theorem br_b {l : List UInt8} (h : (bgT l 0).2.2 = 0) (h2 : (bgT l 0).2.1 ≠ l.length) : brT l = (blZ, 5) := by unfold brT; rw [if_neg (by simp [h]), if_pos h2]
theorem br_c {l : List UInt8} (h : (bgT l 0).2.2 = 0) (h2 : (bgT l 0).2.1 = l.length) : brT l = ((bgT l 0).1, 0) := by unfold brT; rw [if_neg (by simp [h]), if_neg (by simp [h2])]
theorem bgT_ok (l : List UInt8) (at_ : Int) : HOk (bgT l at_).1.p (bgT l at_).1.r (bgT l at_).1.t (bgT l at_).1.b (bgT l at_).1.n := by
  by_cases he : (hgT l at_).e = 0
  · rcases bc_cases he with ⟨c, _, _, h⟩ | ⟨n, p, hn, hx, hg, _⟩
    · rw [h]; exact HOkZ
    · rcases h3 : lsT (tgT l) n p with ⟨T, q, c⟩
      by_cases hc : c = 0
      · subst hc
        by_cases h20 : 20000 < q - at_
        · rw [bg_f rfl he hg hn hx h3 h20]; exact HOkZ
        · rw [bg_g rfl he hg hn hx h3 h20]
          obtain ⟨i, _, _, _, h, _⟩ := hgT_ok he
          exact h
      · rw [bg_e rfl he hg hn hx h3 hc]; exact HOkZ
  · rw [bg_a rfl he]; exact HOkZ
set_option maxRecDepth 100000 in
set_option maxHeartbeats 8000000 in
theorem bread_any (v : Value) (l : List UInt8) (w : World) (h : Rd w v l) (hr : l.length ≤ 140737488355328) (hg : EIs w) :
    Calls Tryz.prog 22 #[v] w fun e w' => ∃ tv, e = .returned (.tuple #[.agg (blc (brT l).1 tv), .int .i64 (brT l).2]) ∧ BlAt w' tv (brT l).1 ∧ Nx w w' := by
  have HRD := Lib.hid h
  have HG := Lib.hid hg
  have HLN := Lib.hid hr
  have HGE := Lib.hid (fun w h g => bget_any v l 0 w h hr g)
  obtain ⟨A, c, rfl, -⟩ := h
  have HA := Lib.hid (fun h => br_a (l := l) h)
  have HBx := Lib.hid (fun h h2 => br_b (l := l) h h2)
  have HC := Lib.hid (fun h h2 => br_c (l := l) h h2)
  have HOK := Lib.hid (bgT_ok l 0)
  obtain ⟨hz, hzs⟩ := zero_of_info info_blz
  have bsz := Lib.hid (blocksz blZ (.slice none 0 0) HOkZ)
  have bsE0 := Lib.hid (fun (B : Blk) tv h => blcsame blZ B (.slice none 0 0) tv HOkZ h)
  have oZB := Lib.hid (blc_one blZ (.slice none 0 0) rfl)
  generalize hZB : blc blZ (.slice none 0 0) = ZB at *
  have HZB := Lib.hid hZB
  clear hZB
  have R0 := Lib.hid (Row.new w ZB 29 _ rfl)
  have N0 := Lib.hid ((Nx.refl w).alloc (.cells ZB 29))
  clear hr hg
  generalize bgT l 0 = T at *
  obtain ⟨BB, q, E⟩ := T
  dsimp only at *
  go_enter Tryz.func22, Tryz.ntmps22
  go_wp2_with fail
  refine (HGE.out _ (HRD.out.nx N0.out) (HG.out.nx N0.out)).mono ?_
  rintro e w1 ⟨tv, rfl, hb, n1⟩
  have hb0 := hb w1 (Above.of_nx (Nx.refl _))
  obtain ⟨A1, c1, rfl, -⟩ := hb0.x.elem
  have R1 := R0.out.nx n1
  have N1 := Lib.hid (N0.out.trans n1)
  have hne : w.heap.size ≠ w1.heap.size := by have := R1.lt; omega
  have RX := Row.new w1 ZB 29 _ rfl
  have bsB := Lib.hid (blocksz BB (.slice A1 BB.txs.length c1) HOK.out)
  have bsE := Lib.hid (bsE0.out BB (.slice A1 BB.txs.length c1) HOK.out)
  have oB := Lib.hid (blc_one BB (.slice A1 BB.txs.length c1) rfl)
  have NX1 := Lib.hid (((Nx.refl w1).alloc (.cells ZB 29)).setRow (g := w1.heap.size) (blc BB (.slice A1 BB.txs.length c1)) (Nat.le_refl _))
  have HLT : Hid (w.heap.size < (w.alloc (.cells ZB 29)).heap.size) := Lib.hid (by simp)
  have BL2 : Hid (∀ cs, BlAt (((w1.alloc (.cells ZB 29)).setRow w1.heap.size (blc BB (.slice A1 BB.txs.length c1))).setRow w.heap.size cs) (.slice A1 BB.txs.length c1) BB) := Lib.hid (fun cs => hb _ ((Above.of_nx NX1.out).trans (Above.setRow HLT.out)))
  generalize hZC : blc BB (.slice A1 BB.txs.length c1) = ZC at *
  have HZC := Lib.hid hZC
  clear hZC
  have RX2 := RX.setRow ZC
  have R2 := R1.nx NX1.out
  have N2 := Lib.hid (N1.out.trans NX1.out)
  clear n1 R0 N0 HGE R1 N1 hne hb hb0 NX1
  by_cases hE : E = 0
  · subst hE
    by_cases hq : q = (l.length : Int)
    · subst hq
      have HB := Lib.hid (HC.out (by trivial) (by trivial))
      go_wp2_with (first | (refine wpList_store_row rfl 29 (.tmp 4) (.tmp 10) rfl w1.heap.size ZC rfl rfl 29 ZB RX bsB.out bsE.out oB.out ?_) | (refine wpList_load_row rfl 29 (.tmp 4) rfl w1.heap.size rfl 29 ZC (0, 0) _ RX2 Tryz.underlying29 rfl bsB.out ?_) | (refine wpList_store_row rfl 29 (.tmp 2) (.tmp 22) rfl w.heap.size ZC rfl rfl 29 ZB R2 bsB.out bsE.out oB.out ?_))
      refine bodyPost_ret (v := .tuple #[.agg ZC, .int .i64 0]) ?_ ?_ ?_
      · exact results_cell_row2 Tryz.results22 _ _ w.heap.size 29 ZC (0, 0) _ rfl (R2.setRow ZC) Tryz.underlying29 rfl bsB.out
      · rfl
      · exact ⟨.slice A1 BB.txs.length c1, by rw [HB.out, HZC.out], by rw [HB.out]; exact BL2.out _, N2.out.setRow _ (Nat.le_refl _)⟩
    · have HB := Lib.hid (HBx.out (by trivial) (by first | exact hq | simpa using hq))
      have dq : (q != (l.length : Int)) = true := by simp [hq]
      clear hq
      go_wp2_with (first | (refine wpList_store_row rfl 29 (.tmp 4) (.tmp 10) rfl w1.heap.size ZC rfl rfl 29 ZB RX bsB.out bsE.out oB.out ?_) | (refine wpList_store_row rfl 29 (.tmp 2) (.tmp 21) rfl w.heap.size ZB rfl rfl 29 ZB R2 bsz.out rfl oZB.out ?_))
      refine bodyPost_ret (v := .tuple #[.agg ZB, .int .i64 5]) ?_ ?_ ?_
      · exact results_cell_row2 Tryz.results22 _ _ w.heap.size 29 ZB (0, 0) _ rfl (R2.setRow ZB) Tryz.underlying29 rfl bsz.out
      · rfl
      · exact ⟨.slice none 0 0, by rw [HB.out, HZB.out], by rw [HB.out]; exact blAt_z _, N2.out.setRow _ (Nat.le_refl _)⟩
  · have HB := Lib.hid (HA.out (by first | exact hE | simpa using hE))
    have dE : (E != 0) = true := by simp [hE]
    clear hE
    go_wp2_with (first | (refine wpList_store_row rfl 29 (.tmp 4) (.tmp 10) rfl w1.heap.size ZC rfl rfl 29 ZB RX bsB.out bsE.out oB.out ?_) | (refine wpList_store_row rfl 29 (.tmp 2) (.tmp 15) rfl w.heap.size ZB rfl rfl 29 ZB R2 bsz.out rfl oZB.out ?_))
    refine bodyPost_ret (v := .tuple #[.agg ZB, .int .i64 E]) ?_ ?_ ?_
    · exact results_cell_row2 Tryz.results22 _ _ w.heap.size 29 ZB (0, 0) _ rfl (R2.setRow ZB) Tryz.underlying29 rfl bsz.out
    · rfl
    · exact ⟨.slice none 0 0, by rw [HB.out, HZB.out], by rw [HB.out]; exact blAt_z _, N2.out.setRow _ (Nat.le_refl _)⟩
end Go.Proofs.YtejeekbpeinioaaGreatDoor
