/- LAYER 10, the document's: Put. -/
import Derived.Test.YtejeekbpeinioaaGreatDoorBkR1
namespace Go.Proofs.YtejeekbpeinioaaGreatDoor
open Go Go.RowKit
set_option linter.unusedVariables false
set_option linter.unusedSimpArgs false
set_option linter.unusedVariables false
set_option linter.unusedSimpArgs false

theorem preT_len {l : List Txn} (h : ∀ t ∈ l, mayT t = true) (hl : l.length ≤ 16) (k : Nat) : (txsB (l.take k)).length ≤ 128000 := by
  have := txsB_len (l.take k) (fun t ht => h t (List.mem_of_mem_take ht))
  rw [List.length_take] at this
  have h2 : min k l.length * 8000 ≤ 16 * 8000 := Nat.mul_le_mul_right _ (by omega)
  omega
set_option maxRecDepth 100000 in
set_option maxHeartbeats 8000000 in
theorem rbput_any (tv : Value) (B : Blk) (w : World) (h : BlAt w tv B) :
    Calls Tryz.prog 10 #[.agg (blc B tv)] w fun e w' => ∃ v, e = .returned (.tuple #[v, .int .i64 (bpE B)]) ∧ Own w.heap.size w' v (bpT B) ∧ Nx w w' := by
  have HBA := Lib.hid h
  have HO := Lib.hid h.h
  obtain ⟨A, c, rfl, hc1, hc2, hel⟩ := h.x.elem
  have HEL := Lib.hid hel
  have R0 := Row.new w (blc B (.slice A B.txs.length c)) 29 _ rfl
  have HK67 := Lib.hid (blc_v B (.slice A B.txs.length c) h.h)
  have HHC : Hid (∀ j v, (hdc B.p B.r B.t B.b B.n)[j]? = some v → (blc B (.slice A B.txs.length c))[j]? = some v) := Lib.hid (fun j v hv => blc_h _ _ _ _ hv)
  have NW := Lib.hid ((Nx.refl w).alloc (.cells (blc B (.slice A B.txs.length c)) 29))
  have bsz := Lib.hid (blocksz B (.slice A B.txs.length c) h.h)
  have hsz := Lib.hid (headsz B.p B.r B.t B.b B.n h.h.p h.h.r)
  have HLI := Lib.hid (fun w h => blist_any (.slice A B.txs.length c) B w h)
  have HPH := Lib.hid (fun w => rhput_any B.p B.r B.t B.b B.n h.h w)
  have HPHL := Lib.hid (hdB_length B.p B.r B.t B.b B.n h.h.p h.h.r)
  have HPCL := Lib.hid (countL_le B.txs.length)
  have HNO := Lib.hid (fun hl => bp_no (blM_list (B := B) hl))
  clear h hel hc1 hc2
  cases hl : lisT B.txs
  · rw [hl] at HLI
    obtain ⟨y1, y2⟩ := HNO.out hl
    replace y1 := Lib.hid y1
    replace y2 := Lib.hid y2
    clear hl HNO
    go_enter Tryz.func10, Tryz.ntmps10
    go_wp2_with (first | (refine wpList_load_row rfl 29 (.tmp 1) rfl w.heap.size rfl 29 (blc B (.slice A B.txs.length c)) (0, 0) _ R0 Tryz.underlying29 rfl bsz.out ?_))
    refine (HLI.out _ (HBA.out.nx NW.out)).mono ?_
    rintro e w1 ⟨rfl, n1⟩
    have N1 := Lib.hid (NW.out.trans n1)
    clear n1
    go_wp2_with fail
    go_ret2
    exact ⟨.slice none 0 0, by rw [y1.out]; rfl, by rw [y2.out]; exact Own.nil _ _, N1.out⟩
  · rw [hl] at HLI
    obtain ⟨m1, m2, m3⟩ := lisT_parts hl
    have HL1 := Lib.hid m1
    have HL2 := Lib.hid m2
    have HMA := Lib.hid m3
    have HM := Lib.hid (blM_dec (B := B) hl)
    have HYES := Lib.hid (fun h => bp_yes (B := B) h)
    have HNO2 := Lib.hid (fun h => bp_no (B := B) h)
    have HPL := Lib.hid (fun k => preT_len m3 m2 k)
    have HSN := Lib.hid (fun j hj => txsB_snoc B.txs j hj)
    have HPC : Hid (∀ w, Calls Tryz.prog 36 #[.int .u64 (IntKind.u64.wrap (B.txs.length : Int))] w fun e w' => ∃ v', e = .returned v' ∧ Own w.heap.size w' v' (countL B.txs.length) ∧ Nx w w') := Lib.hid (fun w => by
      rw [up64 (n := B.txs.length) (by omega)]
      exact refCount_any _ _ (by omega))
    have HBB : Hid (blB B = hdB B.p B.r B.t B.b B.n ++ (countL B.txs.length ++ txsB B.txs)) := Lib.hid rfl
    clear hl HNO m1 m2 m3
    generalize hdB B.p B.r B.t B.b B.n = PH at *
    generalize countL B.txs.length = PC at *
    go_enter Tryz.func10, Tryz.ntmps10
    go_wp2_with (first | (refine wpList_load_row rfl 29 (.tmp 1) rfl w.heap.size rfl 29 (blc B (.slice A B.txs.length c)) (0, 0) _ R0 Tryz.underlying29 rfl bsz.out ?_))
    refine (HLI.out _ (HBA.out.nx NW.out)).mono ?_
    rintro e W ⟨rfl, n1⟩
    have N1 := Lib.hid (NW.out.trans n1)
    have K0 := R0.nx n1
    clear n1 R0 NW HLI
    go_wp2_with fail
    refine wp_region_sep (W.heap.size) 9 [[], [0], [1], [], [3], [4], [5], [6, 2], [2, 7, 7], [8, 8, 0, 1, 2, 3, 4, 5, 6, 7, 8]] [some 11, some 12, some 13, some 14, some 15, some 16, some 17, some 18, some 19] [0, 0, 2, 0, 0, 0, 0, 2, 2] [none, none, some 8, none, none, none, none, none, none, none] [none, none, none, none, none, none, none, none, some 2]
      [{ V := .pointer (some ⟨w.heap.size, 0, none⟩) }, { V := .agg (hdc B.p B.r B.t B.b B.n) }, { l := PH }, { V := .pointer (some ⟨w.heap.size, 67, none⟩) }, { V := .slice A B.txs.length c }, { V := .int .i64 (B.txs.length : Int) }, { V := .int .u64 (IntKind.u64.wrap (B.txs.length : Int)) }, { l := PC }, { l := PH ++ PC }]
      (Nat.le_refl _) (by kernel_rfl) (by kernel_rfl) (hord_of (by decide)) (by kernel_rfl) (by decide) (by decide) (htail_of (by decide)) (stat4 (needs := [[], [0], [1], [], [3], [4], [5], [6, 2], [2, 7, 7], [8, 8, 0, 1, 2, 3, 4, 5, 6, 7, 8]]) (cons := [none, none, some 8, none, none, none, none, none, none, none]) (src := [none, none, none, none, none, none, none, none, some 2]) (by decide)) (statS (by decide)) ?_ ?_ ?_ ?_ _ (by rfl) ?_
    · intro j hj h1 v w w' _ _
      have : j = 0 ∨ j = 1 ∨ j = 2 ∨ j = 3 ∨ j = 4 ∨ j = 5 ∨ j = 6 ∨ j = 7 ∨ j = 8 := by omega
      rcases this with rfl | rfl | rfl | rfl | rfl | rfl | rfl | rfl | rfl <;> exact trivial
    · intro j hj h1
      have : j = 0 ∨ j = 1 ∨ j = 2 ∨ j = 3 ∨ j = 4 ∨ j = 5 ∨ j = 6 ∨ j = 7 ∨ j = 8 := by omega
      rcases this with rfl | rfl | rfl | rfl | rfl | rfl | rfl | rfl | rfl <;> cases h1
    · intro i j hi _ _ h1
      have : i = 0 ∨ i = 1 ∨ i = 2 ∨ i = 3 ∨ i = 4 ∨ i = 5 ∨ i = 6 ∨ i = 7 ∨ i = 8 := by omega
      rcases this with rfl | rfl | rfl | rfl | rfl | rfl | rfl | rfl | rfl <;> cases h1
    · intro x tm wr htm hbl hB i hi hd K hK
      simp only [fillA, List.setIfInBounds_toArray, List.set_cons_zero, List.set_cons_succ] at htm
      subst htm
      have hcs : i = 0 ∨ i = 1 ∨ i = 2 ∨ i = 3 ∨ i = 4 ∨ i = 5 ∨ i = 6 ∨ i = 7 ∨ i = 8 := by omega
      clear hi
      rcases hcs with rfl | rfl | rfl | rfl | rfl | rfl | rfl | rfl | rfl
      · exact wpOp_of rfl rfl (wp_val_of (some 11) rfl (.pointer (some ⟨w.heap.size, 0, none⟩)) (by kernel_rfl) (hK _ _ ⟨rfl, Nx.refl _⟩))
      · have e0 : x 0 = .pointer (some ⟨w.heap.size, 0, none⟩) := hd 0 (by decide)
        generalize x 0 = y0 at e0 hK ⊢
        subst e0
        exact wpOp_of rfl rfl (wp_load_at (some 12) rfl 26 (.tmp 11) rfl (w.heap.size) 0 rfl (hdc B.p B.r B.t B.b B.n) _ (fun j v hv => by rw [Nat.zero_add]; exact (Row.blw K0 hbl K0.lt).cell (HHC.out j v hv)) Tryz.underlying26 rfl hsz.out (hK _ _ ⟨rfl, Nx.refl _⟩))
      · have e1 : x 1 = .agg (hdc B.p B.r B.t B.b B.n) := hd 1 (by decide)
        generalize x 1 = y1 at e1 hK ⊢
        subst e1
        exact wpOp_of rfl rfl (wp_callp_of (some 13) rfl 35 #[(.agg (hdc B.p B.r B.t B.b B.n))] (by kernel_rfl) (fun v w' => Own wr.heap.size w' v (PH)) (HPH.out wr) (fun v w' h1 h2 => hK v w' ⟨h1, h2⟩))
      · exact wpOp_of rfl rfl (wp_val_of (some 14) rfl (.pointer (some ⟨w.heap.size, 67, none⟩)) (by kernel_rfl) (hK _ _ ⟨rfl, Nx.refl _⟩))
      · have e3 : x 3 = .pointer (some ⟨w.heap.size, 67, none⟩) := hd 3 (by decide)
        generalize x 3 = y3 at e3 hK ⊢
        subst e3
        exact wpOp_of rfl rfl (wp_load_cell (some 15) rfl 27 (.tmp 14) rfl (w.heap.size) 67 rfl (.slice A B.txs.length c) _ ((Row.blw K0 hbl K0.lt).cell HK67.out) Tryz.underlying27 rfl (hK _ _ ⟨rfl, Nx.refl _⟩))
      · have e4 : x 4 = .slice A B.txs.length c := hd 4 (by decide)
        generalize x 4 = y4 at e4 hK ⊢
        subst e4
        exact wpOp_of rfl rfl (wp_val_of (some 16) rfl (.int .i64 (B.txs.length : Int)) (by kernel_rfl) (hK _ _ ⟨rfl, Nx.refl _⟩))
      · have e5 : x 5 = .int .i64 (B.txs.length : Int) := hd 5 (by decide)
        generalize x 5 = y5 at e5 hK ⊢
        subst e5
        exact wpOp_of rfl rfl (wp_val_of (some 17) rfl (.int .u64 (IntKind.u64.wrap (B.txs.length : Int))) (by kernel_rfl) (hK _ _ ⟨rfl, Nx.refl _⟩))
      · have e6 : x 6 = .int .u64 (IntKind.u64.wrap (B.txs.length : Int)) := hd 6 (by decide)
        generalize x 6 = y6 at e6 hK ⊢
        subst e6
        exact wpOp_of rfl rfl (wp_callp_of (some 18) rfl 36 #[(.int .u64 (IntKind.u64.wrap (B.txs.length : Int)))] (by kernel_rfl) (fun v w' => Own wr.heap.size w' v (PC)) (HPC.out wr) (fun v w' h1 h2 => hK v w' ⟨h1, h2⟩))
      · have o2 : Own (W.heap.size) wr (x 2) (PH) := hd 2 (by decide) (by decide)
        have o7 : Own (W.heap.size) wr (x 7) (PC) := hd 7 (by decide) (by decide)
        exact wpOp_of rfl rfl (wp_app_of (some 19) rfl (.tmp 13) (.tmp 18) 32 rfl Tryz.underlying32 info_u8p (W.heap.size) (x 2) (x 7) (PH) (PC) rfl rfl o2 (o7.rd) (by have := HPHL.out; have := HPCL.out; omega) hB (fun v' w' h1 h2 h3 => hK v' w' ⟨h1, h2, h3⟩))
    · intro x tm wr htm hbl hv
      simp only [fillA, List.setIfInBounds_toArray, List.set_cons_zero, List.set_cons_succ] at htm
      subst htm
      have HWS : Hid (w.heap.size + 1 ≤ W.heap.size) := Lib.hid K0.lt
      have OY := Lib.hid ((hv 8 (by decide) (by decide)).mono HWS.out)
      have N2 := Lib.hid (N1.out.app (hbl.mono N1.out.size))
      have K1 := Lib.hid (Row.blw K0 hbl K0.lt)
      generalize x 8 = y at *
      clear hv hbl K0
      go_wp2_with fail
      go_loopw [4, 5] (fun bx iv wr => ∃ (j : Nat), iv = .int .i64 (j : Int) ∧ j ≤ B.txs.length ∧ Hid (Own (w.heap.size + 1) wr bx (PH ++ PC ++ txsB (B.txs.take j))) ∧ Hid (Nx w wr) ∧ Hid (Row wr w.heap.size (blc B (.slice A B.txs.length c)) 29)) (fun _ iv _ => B.txs.length - (intOf iv).toNat)
      case atStart => exact ⟨0, rfl, Nat.zero_le _, Lib.hid (by have := OY.out; simpa [txsB] using this), N2, K1⟩
      case round =>
        clear OY N2 K1
        obtain ⟨j, rfl, hj, HOX, HN, HR⟩ := hrel
        have k67 := HR.out.cell HK67.out
        by_cases hlt : j < B.txs.length
        · obtain ⟨b, o, cs, rfl, hb, ⟨iv, ov, rfl, hw⟩, hcell⟩ := HEL.out j hlt
          have hm := HMA.out _ (List.getElem_mem hlt)
          have HE1 : Hid (ptE B.txs[j] = 0 ∧ ptT B.txs[j] = txB B.txs[j]) := Lib.hid ⟨if_pos hm, if_pos hm⟩
          have HJ := Lib.hid hlt
          have hlt1 : (j : Int) < (B.txs.length : Int) := by omega
          have hj16 : (j : Int) < 16 := by have := HL2.out; omega
          have HTX := Lib.hid (hw wr (GrF.of_nx HN.out))
          have HS := Lib.hid (HSN.out j hlt)
          have HQ := Lib.hid (HPL.out (j + 1))
          have HRL : Hid ((txB B.txs[j]).length ≤ 8000) := Lib.hid (mayT_parts hm).2.2.2.2
          have HPL0 := Lib.hid (HPL.out j)
          generalize hq : B.txs[j] = q at *
          clear hq hm
          obtain ⟨A1, c1, A2, c2, rfl, rfl⟩ := HTX.out.slv
          obtain ⟨k0, k1, k2⟩ := kc3 HN.out hb hcell
          have HPT : Hid (∀ w, TxAt w (.slice A1 q.ins.length c1) (.slice A2 q.outs.length c2) q → Calls Tryz.prog 37 #[.agg #[.slice A1 q.ins.length c1, .slice A2 q.outs.length c2, .int .u32 (q.after : Int)]] w fun e w' => ∃ r, e = .returned (.tuple #[r, .int .i64 0]) ∧ Own w.heap.size w' r (txB q) ∧ Nx w w') := Lib.hid (fun w h => by
            have := rtxput_any _ _ q w h
            rwa [HE1.out.1, HE1.out.2] at this)
          clear hlt hj hw hcell hb HE1
          go_wp2_with fail
          refine (HPT.out _ HTX.out).mono ?_
          rintro e w1 ⟨r, rfl, ho, n1⟩
          have N1 := Lib.hid (HN.out.trans n1)
          have R1 := Lib.hid (HR.out.nx n1)
          have OX := Lib.hid (HOX.out.nx n1)
          have HRD := Lib.hid ho.rd
          clear n1 HN HR k67 k0 k1 k2 HPT HTX ho HOX
          go_wp2_with (at_builtin; refine wpList_app rfl (.tmp 36) (.tmp 37) _ rfl Tryz.underlying32 info_u8 (w.heap.size + 1) _ r (PH ++ PC ++ txsB (B.txs.take j)) (txB q) rfl rfl OX.out HRD.out (by have := HPHL.out; have := HPCL.out; have := HPL0.out; have := HRL.out; rw [List.length_append, List.length_append]; omega) R1.out.lt ?_)
          intro a1 u1 q1 b1 g1
          have Q1 : Hid (Own (w.heap.size + 1) u1 a1 (PH ++ PC ++ txsB (B.txs.take (j + 1)))) := Lib.hid (by rw [HS.out]; simpa [List.append_assoc] using q1)
          have N2 := Lib.hid (N1.out.app (b1.mono (Nat.le_succ _)))
          have R2 := Lib.hid (Row.blw R1.out b1 (Nat.lt_succ_self _))
          clear q1 b1 g1
          go_wp2_with fail
          go_roundw
          case rel => exact ⟨j + 1, by go_num, HJ.out, Q1, N2, R2⟩
          case measure => have := HJ.out; simp [intOf]; omega
        · obtain rfl : j = B.txs.length := by omega
          have OF : Hid (Own w.heap.size wr _ (blB B)) := Lib.hid (by
            have := HOX.out.mono (Nat.le_succ w.heap.size)
            rw [List.take_of_length_le (Nat.le_refl _), List.append_assoc] at this
            rw [HBB.out]
            exact this)
          obtain ⟨A5, c5, rfl, -⟩ := OF.out.rd
          clear hlt hj HEL HOX HSN HPL
          by_cases hle : (blB B).length ≤ 20000
          · obtain ⟨y1, y2⟩ := HYES.out (by rw [HM.out]; exact decide_eq_true hle)
            replace y1 := Lib.hid y1
            replace y2 := Lib.hid y2
            have hd : ¬ (20000 : Int) < ((blB B).length : Int) := by omega
            clear hle HYES HNO2 HM HBB
            go_wp2_with fail
            go_ret2
            exact ⟨.slice A5 (blB B).length c5, by rw [y1.out]; rfl, by rw [y2.out]; exact OF.out, HN.out⟩
          · obtain ⟨y1, y2⟩ := HNO2.out (by rw [HM.out]; exact decide_eq_false hle)
            replace y1 := Lib.hid y1
            replace y2 := Lib.hid y2
            have hd : (20000 : Int) < ((blB B).length : Int) := by omega
            clear hle HYES HNO2 HM HBB
            go_wp2_with fail
            go_ret2
            exact ⟨.slice none 0 0, by rw [y1.out]; rfl, by rw [y2.out]; exact Own.nil _ _, HN.out⟩
end Go.Proofs.YtejeekbpeinioaaGreatDoor
