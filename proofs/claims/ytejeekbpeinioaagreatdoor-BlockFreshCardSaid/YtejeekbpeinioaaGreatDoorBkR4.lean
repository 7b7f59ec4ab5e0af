/- LAYER 10, the document's: Get. -/
import Derived.Test.YtejeekbpeinioaaGreatDoorBh
namespace Go.Proofs.YtejeekbpeinioaaGreatDoor
open Go Go.RowKit
set_option linter.unusedVariables false
set_option linter.unusedSimpArgs false
set_option linter.unusedVariables false
set_option linter.unusedSimpArgs false

theorem run_blkh0 (x0 x1 x2 x3 x4 x5 x6 x7 x8 x9 x10 x11 x12 x13 x14 x15 x16 x17 x18 x19 x20 x21 x22 x23 x24 x25 x26 x27 x28 x29 x30 x31 y0 y1 y2 y3 y4 y5 y6 y7 y8 y9 y10 y11 y12 y13 y14 y15 y16 y17 y18 y19 y20 y21 y22 y23 y24 y25 y26 y27 y28 y29 y30 y31 : UInt8) (t b n : Nat) (w : World) :
    (Instr.build 29 #[(0, .agg (hdc [x0, x1, x2, x3, x4, x5, x6, x7, x8, x9, x10, x11, x12, x13, x14, x15, x16, x17, x18, x19, x20, x21, x22, x23, x24, x25, x26, x27, x28, x29, x30, x31] [y0, y1, y2, y3, y4, y5, y6, y7, y8, y9, y10, y11, y12, y13, y14, y15, y16, y17, y18, y19, y20, y21, y22, y23, y24, y25, y26, y27, y28, y29, y30, y31] t b n))]).run Tryz.prog w = .ok (.agg (blc ⟨[x0, x1, x2, x3, x4, x5, x6, x7, x8, x9, x10, x11, x12, x13, x14, x15, x16, x17, x18, x19, x20, x21, x22, x23, x24, x25, x26, x27, x28, x29, x30, x31], [y0, y1, y2, y3, y4, y5, y6, y7, y8, y9, y10, y11, y12, y13, y14, y15, y16, y17, y18, y19, y20, y21, y22, y23, y24, y25, y26, y27, y28, y29, y30, y31], t, b, n, []⟩ (.slice none 0 0))) w := by kernel_rfl
theorem run_blkh (p r : List UInt8) (hp : p.length = 32) (hr : r.length = 32) (t b n : Nat) (w : World) :
    (Instr.build 29 #[(0, .agg (hdc p r t b n))]).run Tryz.prog w = .ok (.agg (blc ⟨p, r, t, b, n, []⟩ (.slice none 0 0))) w := by
  obtain ⟨x0, x1, x2, x3, x4, x5, x6, x7, x8, x9, x10, x11, x12, x13, x14, x15, x16, x17, x18, x19, x20, x21, x22, x23, x24, x25, x26, x27, x28, x29, x30, x31, rfl⟩ := list32h p hp
  obtain ⟨y0, y1, y2, y3, y4, y5, y6, y7, y8, y9, y10, y11, y12, y13, y14, y15, y16, y17, y18, y19, y20, y21, y22, y23, y24, y25, y26, y27, y28, y29, y30, y31, rfl⟩ := list32h r hr
  exact run_blkh0 x0 x1 x2 x3 x4 x5 x6 x7 x8 x9 x10 x11 x12 x13 x14 x15 x16 x17 x18 x19 x20 x21 x22 x23 x24 x25 x26 x27 x28 x29 x30 x31 y0 y1 y2 y3 y4 y5 y6 y7 y8 y9 y10 y11 y12 y13 y14 y15 y16 y17 y18 y19 y20 y21 y22 y23 y24 y25 y26 y27 y28 y29 y30 y31 t b n w
theorem run_mktx1 (A A' : Option Addr) (k c k' c' a : Nat) (w : World) : (Instr.buildSlice 27 1 #[(0, .agg #[.slice A k c, .slice A' k' c', .int .u32 (a : Int)])]).run Tryz.prog w = .ok (.slice (some ⟨w.heap.size, 0, none⟩) 1 1) (w.alloc (.cells #[.slice A k c, .slice A' k' c', .int .u32 (a : Int)] 54)) := by kernel_rfl
theorem blc_set (B C : Blk) (u v : Value) (H : HOk B.p B.r B.t B.b B.n) (e : blc C u = blc B u) : (blc C u).setIfInBounds 67 v = blc B v := by
  rw [e]
  have hl := hdl_length B.p B.r B.t B.b B.n H.p H.r
  simp only [blc, List.setIfInBounds_toArray]
  rw [List.set_append_right _ _ (by omega), hl]
  rfl
theorem ownK_rd {K B : Nat} {w W : World} {v : Value} {es : List Txn} (h : OwnE (txE (fun k => k ≤ K)) B w v es) (hB : K < B) (x : Above (K + 1) w W) : RdE (txE noF) W v es := by
  obtain ⟨fs, h1, h2⟩ := h
  refine ⟨fs, (x.ownF h1 hB).rd h2.one, h2.1, fun j hj => ?_⟩
  obtain ⟨iv, ov, e, hw⟩ := h2.2 j hj
  refine ⟨iv, ov, e, fun W' k => hw W' ⟨k.os.trans x.os, k.tape.trans x.tape, k.output.trans x.output, Nat.le_trans x.size k.size, fun i hi hf hs => ?_⟩⟩
  have hi2 : K + 1 ≤ i := by omega
  exact (k.block i (Nat.lt_of_lt_of_le hi x.size) id (by simp)).trans (x.block i hi2 hi)
theorem ownK_beside {F : Nat → Prop} {K B : Nat} {w w' : World} {v : Value} {es : List Txn} (h : OwnE (txE F) B w v es) (hF : F K) (hB : K < B) (x : w.grownBy w' (some K)) : OwnE (txE F) B w' v es := by
  obtain ⟨fs, h1, h2⟩ := h
  refine ⟨fs, ownF_beside h1 hB x, h2.1, fun j hj => ?_⟩
  obtain ⟨iv, ov, e, hw⟩ := h2.2 j hj
  exact ⟨iv, ov, e, fun W' k => hw W' (GrF.trans ⟨x.os, x.tape, x.output, x.size, fun i hi hf hs => x.block i hi (fun e => by have := Option.some.inj e; subst this; exact hf hF)⟩ k)⟩
theorem txzc : (Value.agg #[.slice none 0 0, .slice none 0 0, .int .u32 0]).cells.size = 3 := rfl
theorem u64_succ (j : Nat) (h : j < 1000) : IntKind.u64.wrap ((j : Int) + 1) = ((j + 1 : Nat) : Int) := by rw [IntKind.wrap_u64, Int.emod_eq_of_lt (by omega) (by omega)]; push_cast; rfl
set_option maxRecDepth 100000 in
set_option maxHeartbeats 16000000 in
theorem rbget_any (v : Value) (l : List UInt8) (at_ : Int) (w : World) (h : Rd w v l) (hr : l.length ≤ 140737488355328) :
    Calls Tryz.prog 21 #[v, .int .i64 at_] w fun e w' => ∃ tv, e = .returned (.tuple #[.agg (blc (bgT l at_).1 tv), .int .i64 (bgT l at_).2.1, .int .i64 (bgT l at_).2.2]) ∧ (∀ W, Above w.heap.size w' W → BlAt W tv (bgT l at_).1) ∧ Nx w w' := by
  have HRD := Lib.hid h
  have HLN := Lib.hid hr
  have HHG := Lib.hid (fun w h => rhget_any v l at_ w h hr)
  have HGC := Lib.hid (fun p w h => refGetCount_any v l p w h hr)
  have HTG := Lib.hid (fun q w h => rtget_any v l q w h hr)
  dsimp only [tcel] at HTG
  obtain ⟨A, c, rfl, -⟩ := h
  have LP := Lib.hid (hgT_p l at_)
  have LR := Lib.hid (hgT_r l at_)
  have HOKK := Lib.hid (fun he => by obtain ⟨i, _, _, _, h, _⟩ := hgT_ok (l := l) (at_ := at_) he; exact h)
  have HBE := Lib.hid (fun he => bg_a (l := l) (at_ := at_) rfl he)
  have HB1 := Lib.hid (fun he n p c hg hc => bg_b (l := l) (at_ := at_) (n := n) (p := p) (c := c) rfl he hg hc)
  have HB2 := Lib.hid (fun he p hg => bg_c (l := l) (at_ := at_) (p := p) rfl he hg)
  have HB3 := Lib.hid (fun he n p hg hn hx => bg_d (l := l) (at_ := at_) (n := n) (p := p) rfl he hg hn hx)
  have HBF := Lib.hid (fun he n p (T : List Txn) q c hg hn hx h3 hc => bg_e (l := l) (at_ := at_) (n := n) (p := p) (T := T) (q := q) (c := c) rfl he hg hn hx h3 hc)
  have HBH := Lib.hid (fun he n p (T : List Txn) q hg hn hx h3 hc => bg_f (l := l) (at_ := at_) (n := n) (p := p) (T := T) (q := q) rfl he hg hn hx h3 hc)
  have HBG := Lib.hid (fun he n p (T : List Txn) q hg hn hx h3 hc => bg_g (l := l) (at_ := at_) (n := n) (p := p) (T := T) (q := q) rfl he hg hn hx h3 hc)
  have HBB := Lib.hid (fun he p q n (T : List Txn) hg ht => bl_bounds (l := l) (at_ := at_) (p := p) (q := q) (n := n) (T := T) he hg ht)
  obtain ⟨hz, hzs⟩ := zero_of_info info_blz
  obtain ⟨hz2, hzs2⟩ := zero_of_info info_head
  have bsz := Lib.hid (blocksz blZ (.slice none 0 0) HOkZ)
  have bsE0 := Lib.hid (fun (B : Blk) tv h => blcsame blZ B (.slice none 0 0) tv HOkZ h)
  have oZB := Lib.hid (blc_one blZ (.slice none 0 0) rfl)
  have HRUN := Lib.hid (fun t b n w => run_blkh (hgT l at_).p (hgT l at_).r (hgT_p l at_) (hgT_r l at_) t b n w)
  generalize hZB : blc blZ (.slice none 0 0) = ZB at *
  have HZB := Lib.hid hZB
  clear hZB
  have R0 := Lib.hid (Row.new w ZB 29 _ rfl)
  have N0 := Lib.hid ((Nx.refl w).alloc (.cells ZB 29))
  clear hr
  generalize hH : hgT l at_ = H at *
  clear hH
  obtain ⟨P, R, TM, BT, NC, NXT, E⟩ := H
  dsimp only at *
  have hsz := Lib.hid (headsz P R TM BT NC LP.out LR.out)
  have hsm := Lib.hid (headsame Z32h Z32h P R 0 0 0 TM BT NC Z32_lengthh Z32_lengthh LP.out LR.out)
  have hon := Lib.hid (hd_one P R TM BT NC)
  generalize hdc Z32h Z32h 0 0 0 = ZH at *
  go_enter Tryz.func21, Tryz.ntmps21
  go_wp2_with fail
  refine (HHG.out _ (HRD.out.nx N0.out)).mono ?_
  rintro e w1 ⟨rfl, n1⟩
  have R1 := R0.out.nx n1
  have N1 := Lib.hid (N0.out.trans n1)
  have RX := Row.new w1 ZH 26 _ rfl
  have NX1 := Lib.hid (((Nx.refl w1).alloc (.cells ZH 26)).setRow (g := w1.heap.size) (hdc P R TM BT NC) (Nat.le_refl _))
  have RH := Lib.hid (RX.setRow (hdc P R TM BT NC))
  have RB := Lib.hid (R1.nx NX1.out)
  have N2 := Lib.hid (N1.out.trans NX1.out)
  clear n1 R0 N0 HHG N1 R1 NX1
  by_cases hE : E = 0
  · subst hE
    have HOK := Lib.hid (HOKK.out (by trivial))
    go_upto_region 4 with (refine wpList_store_row rfl 26 (.tmp 7) (.tmp 22) rfl w1.heap.size (hdc P R TM BT NC) rfl rfl 26 ZH RX hsz.out hsm.out hon.out ?_)
    generalize hg1 : w1.heap.size = g1 at *
    clear RX hg1
    generalize (w1.alloc (.cells ZH 26)).setRow g1 (hdc P R TM BT NC) = W2 at *
    go_wp2_with fail
    refine (HGC.out _ _ (HRD.out.nx N2.out)).mono ?_
    rintro e w2 ⟨rfl, n2⟩
    have RH2 := Lib.hid (RH.out.nx n2)
    have RB2 := RB.out.nx n2
    have N3 := Lib.hid (N2.out.trans n2)
    rcases hgc : gc l NXT with ⟨n, p, ce⟩
    clear n2 RH RB N2 HGC
    by_cases hc0 : ce = 0
    · subst hc0
      by_cases hn0 : n = 0
      · subst hn0
        have HB := Lib.hid (HB2.out (by trivial) p hgc)
        clear hgc
        go_wp2_with (refine wpList_store_row rfl 29 (.tmp 4) (.tmp 42) rfl w.heap.size ZB rfl rfl 29 ZB RB2 bsz.out rfl oZB.out ?_)
        refine bodyPost_ret (v := .tuple #[.agg ZB, .int .i64 0, .int .i64 5]) ?_ ?_ ?_
        · exact results_cell_row3 Tryz.results21 _ _ w.heap.size 29 ZB (0, 0) _ rfl (RB2.setRow ZB) Tryz.underlying29 rfl bsz.out
        · rfl
        · exact ⟨.slice none 0 0, by rw [HB.out, HZB.out], fun W _ => by rw [HB.out]; exact blAt_z _, N3.out.setRow _ (Nat.le_refl _)⟩
      · have d0 : ((n : Int) == 0) = false := by rw [beq_eq_false_iff_ne]; omega
        by_cases hx : 16 < n
        · have HB := Lib.hid (HB3.out (by trivial) n p hgc hn0 hx)
          have d16 : (16 : Int) < (n : Int) := by omega
          clear hgc hn0 hx
          go_wp2_with (refine wpList_store_row rfl 29 (.tmp 4) (.tmp 45) rfl w.heap.size ZB rfl rfl 29 ZB RB2 bsz.out rfl oZB.out ?_)
          refine bodyPost_ret (v := .tuple #[.agg ZB, .int .i64 0, .int .i64 3]) ?_ ?_ ?_
          · exact results_cell_row3 Tryz.results21 _ _ w.heap.size 29 ZB (0, 0) _ rfl (RB2.setRow ZB) Tryz.underlying29 rfl bsz.out
          · rfl
          · exact ⟨.slice none 0 0, by rw [HB.out, HZB.out], fun W _ => by rw [HB.out]; exact blAt_z _, N3.out.setRow _ (Nat.le_refl _)⟩
        · have d16 : ¬ (16 : Int) < (n : Int) := by omega
          have HN0 := Lib.hid hn0
          have HN16 : Hid (n ≤ 16) := Lib.hid (by omega)
          have HNX := Lib.hid hx
          have HGCC := Lib.hid hgc
          have HBFF := Lib.hid (fun T q c h3 hc => HBF.out (by trivial) n p T q c hgc hn0 hx h3 hc)
          have HBHH := Lib.hid (fun T q h3 hc => HBH.out (by trivial) n p T q hgc hn0 hx h3 hc)
          have HBGG := Lib.hid (fun T q h3 hc => HBG.out (by trivial) n p T q hgc hn0 hx h3 hc)
          have HBBB := Lib.hid (fun T q h3 => HBB.out (by trivial) p q n T hgc h3)
          have bsC := Lib.hid (blocksz ⟨P, R, TM, BT, NC, []⟩ (.slice none 0 0) HOK.out)
          have bsCE := Lib.hid (bsE0.out ⟨P, R, TM, BT, NC, []⟩ (.slice none 0 0) HOK.out)
          have oC := Lib.hid (blc_one ⟨P, R, TM, BT, NC, []⟩ (.slice none 0 0) rfl)
          have bsD := Lib.hid (fun u => blocksz ⟨P, R, TM, BT, NC, []⟩ u HOK.out)
          have bsDE := Lib.hid (fun u => bsE0.out ⟨P, R, TM, BT, NC, []⟩ u HOK.out)
          have oD := Lib.hid (fun u h => blc_one ⟨P, R, TM, BT, NC, []⟩ u h)
          have HV67 := Lib.hid (fun u => blc_v ⟨P, R, TM, BT, NC, []⟩ u HOK.out)
          have HST := Lib.hid (fun u v => blc_set ⟨P, R, TM, BT, NC, []⟩ ⟨P, R, TM, BT, NC, []⟩ u v HOK.out rfl)
          have HRU := Lib.hid (fun w => HRUN.out TM BT NC w)
          have HOKB : Hid (∀ T : List Txn, HOk (⟨P, R, TM, BT, NC, T⟩ : Blk).p (⟨P, R, TM, BT, NC, T⟩ : Blk).r (⟨P, R, TM, BT, NC, T⟩ : Blk).t (⟨P, R, TM, BT, NC, T⟩ : Blk).b (⟨P, R, TM, BT, NC, T⟩ : Blk).n) := Lib.hid (fun _ => HOK.out)
          have HBLC : Hid (∀ (T : List Txn) u, blc ⟨P, R, TM, BT, NC, T⟩ u = blc ⟨P, R, TM, BT, NC, []⟩ u) := Lib.hid (fun _ _ => rfl)
          have RK := Row.new w2 ZB 29 _ rfl
          have RK2 := Lib.hid (RK.setRow (blc ⟨P, R, TM, BT, NC, []⟩ (.slice none 0 0)))
          have hne : w.heap.size ≠ w2.heap.size := by have := RB2.lt; omega
          have RB3 := Lib.hid ((RB2.alloc (.cells ZB 29)).setRow_other (k := w2.heap.size) (blc ⟨P, R, TM, BT, NC, []⟩ (.slice none 0 0)) hne)
          have N4 := Lib.hid ((N3.out.alloc (.cells ZB 29)).setRow (g := w2.heap.size) (blc ⟨P, R, TM, BT, NC, []⟩ (.slice none 0 0)) N3.out.size)
          have HKL : Hid (w.heap.size < w2.heap.size) := Lib.hid RB2.lt
          have RHH := RH2.out
          clear hgc hn0 hx HBF HBH HBG HBB HB1 HB2 HB3 HBE bsE0 hne RB2 N3 HOKK
          generalize hTT : lsT (tgT l) n p = T at *
          have HT : Hid (LsJ (tgT l) T [] (n - 0) p) := Lib.hid (by rw [← hTT]; exact lsJ_begin (tgT l) n p)
          clear hTT
          generalize hBC : blc ⟨P, R, TM, BT, NC, []⟩ = BC at *
          go_upto_region 12 with (first | (refine wpList_load_row rfl 26 (.tmp 7) rfl g1 rfl 26 (hdc P R TM BT NC) (0, 0) _ RHH Tryz.underlying26 rfl hsz.out ?_) | (refine wpList_bld rfl 29 #[(0, .tmp 46)] rfl #[(0, .agg (hdc P R TM BT NC))] (by kernel_rfl) _ (HRU.out _) ?_) | (refine wpList_store_row rfl 29 (.tmp 13) (.tmp 47) rfl w2.heap.size (BC (.slice none 0 0)) rfl rfl 29 ZB RK bsC.out bsCE.out oC.out ?_))
          clear RK RHH
          generalize hK : w2.heap.size = K at *
          clear hK
          generalize (w2.alloc (.cells ZB 29)).setRow K (BC (.slice none 0 0)) = W4 at *
          replace HTG := HTG
          go_wp2_with fail
          go_loopw [8, 14] (fun av iv wr => ∃ (j : Nat) (es : List Txn) (q : Int) (bx : Value), av = .int .i64 q ∧ iv = .int .u64 (j : Int) ∧ j ≤ n ∧ Hid (es.length = j) ∧ Hid (LsJ (tgT l) T es (n - j) q) ∧ Hid (OwnE (txE (fun k => k ≤ K)) (K + 1) wr bx es) ∧ Hid (Row wr K (BC bx) 29) ∧ Hid (Row wr w.heap.size ZB 29) ∧ Hid (Nx w wr)) (fun _ iv _ => n - (intOf iv).toNat)
          case atStart => exact ⟨0, [], p, .slice none 0 0, rfl, rfl, Nat.zero_le _, Lib.hid rfl, HT, Lib.hid (OwnE.nil _ _), RK2, RB3, N4⟩
          case round =>
            clear HT RK2 RB3 N4
            obtain ⟨j, es, q, bx, rfl, rfl, hj, HES, HJ, HOX, HRK, HRB, HN⟩ := hrel
            obtain ⟨A5, c5, hbx⟩ := ownE_sl HOX.out
            by_cases hlt : j < n
            · have HLT := Lib.hid hlt
              have hlt1 : (j : Int) < (n : Int) := by omega
              have hj16 : (j : Int) < 16 := by have := HN16.out; omega
              have HCL := Lib.hid (HTG.out q wr (HRD.out.nx HN.out))
              have HJ1 : Hid (LsJ (tgT l) T es ((n - (j + 1)) + 1) q) := Lib.hid (by rw [show n - (j + 1) + 1 = n - j by omega]; exact HJ.out)
              have HSTEP := Lib.hid (fun h => lsJ_step HJ1.out h)
              have HBAD := Lib.hid (fun h => lsJ_bad HJ1.out h)
              have HKW : Hid (K < wr.heap.size) := Lib.hid HRK.out.lt
              have HBX : Hid (∀ q, bx.ownBlock = some q → q < wr.heap.size) := Lib.hid (fun q hq => (HOX.out.blk q hq).2)
              clear hbx
              clear hlt hj HJ HJ1
              generalize tgT l q = X at *
              obtain ⟨x, q', E'⟩ := X
              dsimp only at *
              go_wp2_with fail
              refine HCL.out.mono ?_
              rintro e w1 ⟨iv, ov, rfl, TF, n1⟩
              obtain ⟨A1, d1, A2, d2, rfl, rfl⟩ := TF.1.slv
              have S1 := (Nx.refl w1).alloc (.cells #[.slice A1 x.ins.length d1, .slice A2 x.outs.length d2, .int .u32 (x.after : Int)] 54)
              have N1 := Lib.hid ((HN.out.trans n1).trans S1)
              have RB1 := Lib.hid ((HRB.out.nx n1).nx S1)
              have RK1 := Lib.hid ((HRK.out.nx n1).nx S1)
              have k67 := RK1.out.cell (HV67.out bx)
              have OX1 := Lib.hid ((HOX.out.nx n1).nx S1)
              have TF1 := Lib.hid (TF.nx S1)
              have M1 := Row.new w1 #[.slice A1 x.ins.length d1, .slice A2 x.outs.length d2, .int .u32 (x.after : Int)] 54 _ rfl
              clear HCL HN HRB HRK HOX n1 S1 TF
              by_cases hE' : E' = 0
              · subst hE'
                have HSTP := Lib.hid (HSTEP.out (by trivial))
                have iz := Lib.hid (show (Tryz.prog.info? 54).map (·.size) = some (#[.slice A1 x.ins.length d1, .slice A2 x.outs.length d2, .int .u32 (x.after : Int)] : Array Value).size by exact txz _ _ _)
                have MU := Lib.hid (fun w => run_mktx1 A1 A2 x.ins.length d1 x.outs.length d2 x.after w)
                have HE2 : Hid (es.length + 1 ≤ 17) := Lib.hid (by have := HES.out; have := HN16.out; have := HLT.out; omega)
                clear HSTEP HBAD
                go_upto_region 19 with fail
                generalize hg15 : w1.heap.size = g15 at *
                generalize hwb : w1.alloc (.cells #[.slice A1 x.ins.length d1, .slice A2 x.outs.length d2, .int .u32 (x.after : Int)] 54) = wb at *
                clear hg15 hwb
                have A0 := Lib.hid ((Nx.refl wb).alloc (.cells #[.slice A1 x.ins.length d1, .slice A2 x.outs.length d2, .int .u32 (x.after : Int)] 54))
                have NA := Lib.hid (N1.out.trans A0.out)
                have RBA := Lib.hid (RB1.out.nx A0.out)
                have RKA := Lib.hid (RK1.out.nx A0.out)
                have OXA := Lib.hid (OX1.out.nx A0.out)
                have ALL := Lib.hid (AllE.single (L := txE (fun k => k ≤ K)) (s := bx.ownBlock) (txE_free (TF1.out.nx A0.out) (fun k hk => by have := HKW.out; omega) HBX.out))
                have RDF := Lib.hid (show RdF 3 (wb.alloc (.cells #[.slice A1 x.ins.length d1, .slice A2 x.outs.length d2, .int .u32 (x.after : Int)] 54)) (.slice (some ⟨wb.heap.size, 0, none⟩) 1 1) 1 (tcl (.slice A1 x.ins.length d1) (.slice A2 x.outs.length d2) x.after) from rdF_one (w := wb) (E := 54) (cs := tcl (.slice A1 x.ins.length d1) (.slice A2 x.outs.length d2) x.after) rfl (fun u hu => by
                  simp only [tcl, List.mem_cons, List.not_mem_nil, or_false] at hu
                  rcases hu with rfl | rfl | rfl <;> rfl))
                clear N1 RB1 RK1 OX1 A0 TF1
                go_wp2_with (first | (refine wpList_load_row rfl 54 (.tmp 15) rfl g15 rfl 54 #[.slice A1 x.ins.length d1, .slice A2 x.outs.length d2, .int .u32 (x.after : Int)] (0, 0) _ M1 Tryz.underlying54 rfl iz.out ?_) | (refine wpList_mk rfl 27 1 #[(0, .tmp 67)] rfl #[(0, .agg #[.slice A1 x.ins.length d1, .slice A2 x.outs.length d2, .int .u32 (x.after : Int)])] (by kernel_rfl) _ (MU.out _) ?_) | (at_builtin; refine wpList_appE2 (txE (fun k => k ≤ K)) rfl (.tmp 66) (.tmp 68) 27 rfl (.agg #[.slice none 0 0, .slice none 0 0, .int .u32 0]) 56 Tryz.underlying27 info_tx3 txzc (K + 1) bx (.slice (some ⟨wb.heap.size, 0, none⟩) 1 1) es [x] (tcl (.slice A1 x.ins.length d1) (.slice A2 x.outs.length d2) x.after) rfl rfl OXA.out RDF.out ALL.out ?e1 ?e2 RKA.out.lt ?_))
                case e1 => have := HE2.out; simp only [List.length_singleton]; omega
                case e2 => have := HE2.out; simp only [List.length_singleton, maxLen]; omega
                intro v7 w7 o7 b7 g7 e7
                obtain ⟨A6, c6, rfl⟩ := ownE_sl o7
                have hl1 : (es ++ [x]).length = es.length + 1 := by simp
                rw [hl1] at o7 ⊢
                clear hl1
                have RK7 := Row.blw RKA.out b7 (Nat.lt_succ_self _)
                have RB7 := Row.blw RBA.out b7 (by have := HKL.out; omega)
                have O7 := Lib.hid (ownK_beside o7 (Nat.le_refl _) (Nat.lt_succ_self _) (gr_set w7 K 67 (.slice A6 (es.length + 1) c6)))
                have RK8 : Hid (Row (w7.setCell ⟨K, 67, none⟩ (.slice A6 (es.length + 1) c6)) K (BC (.slice A6 (es.length + 1) c6)) 29) := Lib.hid (by have := RK7.set 67 (.slice A6 (es.length + 1) c6); rwa [HST.out] at this)
                have RB8 := Lib.hid (RB7.other K 67 (.slice A6 (es.length + 1) c6) (by have := HKL.out; omega))
                have N8 := Lib.hid ((NA.out.app (b7.mono (by have := HKL.out; omega))).setAt (k := K) (i := 67) (.slice A6 (es.length + 1) c6) (by have := HKL.out; omega))
                have c67 := RK7.cell (HV67.out bx)
                have f67 := RK7.frozen 67
                have HL2 : Hid ((es ++ [x]).length = j + 1) := Lib.hid (by rw [List.length_append, HES.out]; rfl)
                clear o7 b7 g7 e7 OXA RDF ALL RKA RBA NA k67 RK7 RB7 M1 MU iz
                go_wp2_with fail
                go_roundw
                case rel => exact ⟨j + 1, es ++ [x], q', .slice A6 (es.length + 1) c6, rfl, by go_num, HLT.out, HL2, HSTP, O7, RK8, RB8, N8⟩
                case measure => have := HLT.out; simp [intOf]; omega
              · have dE' : (E' != 0) = true := by simp [hE']
                have HBQ := Lib.hid (HBAD.out hE')
                have HB := Lib.hid (HBFF.out [] 0 E' (by rw [HBQ.out]) hE')
                have RB2 := RB1.out
                clear HSTEP HBAD hE' M1 k67
                go_wp2_with (refine wpList_store_row rfl 29 (.tmp 4) (.tmp 63) rfl w.heap.size ZB rfl rfl 29 ZB RB2 bsz.out rfl oZB.out ?_)
                refine bodyPost_ret (v := .tuple #[.agg ZB, .int .i64 0, .int .i64 E']) ?_ ?_ ?_
                · exact results_cell_row3 Tryz.results21 _ _ w.heap.size 29 ZB (0, 0) _ rfl (RB2.setRow ZB) Tryz.underlying29 rfl bsz.out
                · rfl
                · exact ⟨.slice none 0 0, by rw [HB.out, HZB.out], fun W _ => by rw [HB.out]; exact blAt_z _, N1.out.setRow _ (Nat.le_refl _)⟩
            · obtain rfl : j = n := by omega
              have HE := lsJ_end (show LsJ (tgT l) T es 0 q by have := HJ.out; rwa [Nat.sub_self] at this)
              have HEH := Lib.hid HE
              obtain ⟨b1, b2, b3⟩ := HBBB.out es q (by rw [HEH.out])
              have kx : IntKind.i64.wrap (q - at_) = q - at_ := IntWalk.i64_in _ (by have := HLN.out; omega)
              have RB2 := HRB.out
              have RKK := HRK.out
              clear HJ hlt hj HE b1 b2 b3
              by_cases hx : 20000 < q - at_
              · have HB := Lib.hid (HBHH.out es q (by rw [HEH.out]) hx)
                go_wp2_with (refine wpList_store_row rfl 29 (.tmp 4) (.tmp 76) rfl w.heap.size ZB rfl rfl 29 ZB RB2 bsz.out rfl oZB.out ?_)
                refine bodyPost_ret (v := .tuple #[.agg ZB, .int .i64 0, .int .i64 3]) ?_ ?_ ?_
                · exact results_cell_row3 Tryz.results21 _ _ w.heap.size 29 ZB (0, 0) _ rfl (RB2.setRow ZB) Tryz.underlying29 rfl bsz.out
                · rfl
                · exact ⟨.slice none 0 0, by rw [HB.out, HZB.out], fun W _ => by rw [HB.out]; exact blAt_z _, HN.out.setRow _ (Nat.le_refl _)⟩
              · have HB := Lib.hid (HBGG.out es q (by rw [HEH.out]) (by omega))
                have i1 := Lib.hid (bsD.out bx)
                have i2 := Lib.hid (bsDE.out bx)
                have i3 := Lib.hid (oD.out bx (by rw [hbx]; rfl))
                have HAB : Hid (∀ cs W, Above w.heap.size (wr.setRow w.heap.size cs) W → Above (K + 1) wr W) := Lib.hid (fun cs W hab => (Above.setRow (by have := HKL.out; omega)).trans (hab.mono (by have := HKL.out; omega)))
                clear hbx
                generalize hZC : BC bx = ZC at *
                have HZC := Lib.hid hZC
                clear hZC
                go_wp2_with (first | (refine wpList_load_row rfl 29 (.tmp 13) rfl K rfl 29 ZC (0, 0) _ RKK Tryz.underlying29 rfl i1.out ?_) | (refine wpList_store_row rfl 29 (.tmp 4) (.tmp 77) rfl w.heap.size ZC rfl rfl 29 ZB RB2 i1.out i2.out i3.out ?_))
                refine bodyPost_ret (v := .tuple #[.agg ZC, .int .i64 q, .int .i64 0]) ?_ ?_ ?_
                · exact results_cell_row3 Tryz.results21 _ _ w.heap.size 29 ZC (0, 0) _ rfl (RB2.setRow ZC) Tryz.underlying29 rfl i1.out
                · rfl
                · exact ⟨bx, by rw [HB.out]; dsimp only; rw [HBLC.out, HZC.out], fun W hab => by rw [HB.out]; exact ⟨HOKB.out es, ownK_rd HOX.out (Nat.lt_succ_self _) (HAB.out _ W hab)⟩, HN.out.setRow _ (Nat.le_refl _)⟩
    · have HB := Lib.hid (HB1.out (by trivial) n p ce hgc hc0)
      have dc : (ce != 0) = true := by simp [hc0]
      clear hgc hc0
      go_wp2_with (refine wpList_store_row rfl 29 (.tmp 4) (.tmp 38) rfl w.heap.size ZB rfl rfl 29 ZB RB2 bsz.out rfl oZB.out ?_)
      refine bodyPost_ret (v := .tuple #[.agg ZB, .int .i64 0, .int .i64 ce]) ?_ ?_ ?_
      · exact results_cell_row3 Tryz.results21 _ _ w.heap.size 29 ZB (0, 0) _ rfl (RB2.setRow ZB) Tryz.underlying29 rfl bsz.out
      · rfl
      · exact ⟨.slice none 0 0, by rw [HB.out, HZB.out], fun W _ => by rw [HB.out]; exact blAt_z _, N3.out.setRow _ (Nat.le_refl _)⟩
  · have HB := Lib.hid (HBE.out hE)
    have dE : (E != 0) = true := by simp [hE]
    have RB2 := RB.out
    clear hE
    go_wp2_with (first | (refine wpList_store_row rfl 26 (.tmp 7) (.tmp 22) rfl w1.heap.size (hdc P R TM BT NC) rfl rfl 26 ZH RX hsz.out hsm.out hon.out ?_) | (refine wpList_store_row rfl 29 (.tmp 4) (.tmp 27) rfl w.heap.size ZB rfl rfl 29 ZB RB2 bsz.out rfl oZB.out ?_))
    refine bodyPost_ret (v := .tuple #[.agg ZB, .int .i64 0, .int .i64 E]) ?_ ?_ ?_
    · exact results_cell_row3 Tryz.results21 _ _ w.heap.size 29 ZB (0, 0) _ rfl (RB2.setRow ZB) Tryz.underlying29 rfl bsz.out
    · rfl
    · exact ⟨.slice none 0 0, by rw [HB.out, HZB.out], fun W _ => by rw [HB.out]; exact blAt_z _, N2.out.setRow _ (Nat.le_refl _)⟩
end Go.Proofs.YtejeekbpeinioaaGreatDoor
