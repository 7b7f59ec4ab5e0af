/- LAYER 10, the document's: Same of blocks that are alike. -/
import Derived.Test.YtejeekbpeinioaaGreatDoorBkR6
import Derived.Test.YtejeekbpeinioaaGreatDoorBh
import Derived.Test.YtejeekbpeinioaaGreatDoorTs
namespace Go.Proofs.YtejeekbpeinioaaGreatDoor
open Go Go.RowKit
set_option linter.unusedVariables false
set_option linter.unusedSimpArgs false
set_option linter.unusedVariables false
set_option linter.unusedSimpArgs false

set_option maxRecDepth 100000 in
set_option maxHeartbeats 8000000 in
theorem rbsame_yes (u v : Value) (B : Blk) (w : World) (h1 : BlAt w u B) (h2 : BlAt w v B) :
    Calls Tryz.prog 17 #[.agg (blc B u), .agg (blc B v)] w fun e w' => e = .returned (.bool true) ∧ Nx w w' := by
  have HO := Lib.hid h1.h
  obtain ⟨A, c, rfl, hc1, hc2, hel⟩ := h1.x.elem
  obtain ⟨A', d, rfl, -, -, hel2⟩ := h2.x.elem
  have HEL := Lib.hid hel
  have HEL2 := Lib.hid hel2
  unfold maxLen at hc2
  have HL63 := Lib.hid (show B.txs.length ≤ 9223372036854775807 by omega)
  have hsz := Lib.hid (headsz B.p B.r B.t B.b B.n h1.h.p h1.h.r)
  have EQH : Hid (∀ w, (Op.equalIn 10000 26 (.agg (hdc B.p B.r B.t B.b B.n)) (.agg (hdc B.p B.r B.t B.b B.n))).run Tryz.prog w = .ok true w) := Lib.hid (fun w => by
    have := eq_head B.p B.r B.p B.r B.t B.b B.n B.t B.b B.n h1.h.p h1.h.r h1.h.p h1.h.r w
    simpa using this)
  have HK1 := Lib.hid (blc_v B (.slice A B.txs.length c) h1.h)
  have HK2 := Lib.hid (blc_v B (.slice A' B.txs.length d) h1.h)
  have R1 := Lib.hid ((Row.new w (blc B (.slice A B.txs.length c)) 29 _ rfl).alloc (.cells (blc B (.slice A' B.txs.length d)) 29))
  have R2 := Lib.hid (Row.new2 w (.cells (blc B (.slice A B.txs.length c)) 29) (blc B (.slice A' B.txs.length d)) 29)
  have N0 := Lib.hid (((Nx.refl w).alloc (.cells (blc B (.slice A B.txs.length c)) 29)).alloc (.cells (blc B (.slice A' B.txs.length d)) 29))
  have HLD1 : Hid (∀ j v, (hdc B.p B.r B.t B.b B.n)[j]? = some v → ((w.alloc (.cells (blc B (.slice A B.txs.length c)) 29)).alloc (.cells (blc B (.slice A' B.txs.length d)) 29)).cell? ⟨w.heap.size, 0 + j, none⟩ = some v) := Lib.hid (fun j v hv => by rw [Nat.zero_add]; exact R1.out.cell (blc_h B _ _ _ hv))
  have HLD2 : Hid (∀ j v, (hdc B.p B.r B.t B.b B.n)[j]? = some v → ((w.alloc (.cells (blc B (.slice A B.txs.length c)) 29)).alloc (.cells (blc B (.slice A' B.txs.length d)) 29)).cell? ⟨w.heap.size + 1, 0 + j, none⟩ = some v) := Lib.hid (fun j v hv => by rw [Nat.zero_add]; exact R2.out.cell (blc_h B _ _ _ hv))
  have k1 := R1.out.cell HK1.out
  have k2 := R2.out.cell HK2.out
  have e2 : ((B.txs.length : Int) != (B.txs.length : Int)) = false := by simp
  clear h1 h2 hel hel2 hc1 hc2
  go_enter Tryz.func17, Tryz.ntmps17
  go_wp2_with (first | (refine wpList_load_at rfl 26 (.tmp 6) rfl w.heap.size 0 rfl (hdc B.p B.r B.t B.b B.n) _ HLD1.out Tryz.underlying26 rfl hsz.out ?_) | (refine wpList_load_at rfl 26 (.tmp 8) rfl (w.heap.size + 1) 0 rfl (hdc B.p B.r B.t B.b B.n) _ HLD2.out Tryz.underlying26 rfl hsz.out ?_) | (refine wpList_plain rfl fun K hK => wp_neq_of (some 10) rfl 26 _ _ _ rfl (hdc B.p B.r B.t B.b B.n) (hdc B.p B.r B.t B.b B.n) rfl rfl (by kernel_rfl) true (EQH.out _) (hK _ _ ?_)))
  clear e2
  go_loopw [5] (fun iv wr => ∃ j : Nat, iv = .int .i64 (j : Int) ∧ j ≤ B.txs.length ∧ Hid (Nx w wr) ∧ Hid (Row wr w.heap.size (blc B (.slice A B.txs.length c)) 29) ∧ Hid (Row wr (w.heap.size + 1) (blc B (.slice A' B.txs.length d)) 29)) (fun iv _ => B.txs.length - (intOf iv).toNat)
  case atStart => exact ⟨0, rfl, Nat.zero_le _, N0, R1, R2⟩
  case round =>
    clear N0 R1 R2 k1 k2 HLD1 HLD2
    obtain ⟨j, rfl, hj, HN, HR1, HR2⟩ := hrel
    have k1 := HR1.out.cell HK1.out
    have k2 := HR2.out.cell HK2.out
    by_cases hlt : j < B.txs.length
    · obtain ⟨b, o, cs, rfl, hb, ⟨iv, ov, rfl, hw⟩, hcell⟩ := HEL.out j hlt
      obtain ⟨b2, o2, cs2, rfl, hb2, ⟨iv', ov', rfl, hw2⟩, hcell2⟩ := HEL2.out j hlt
      have HT1 := Lib.hid (hw wr (GrF.of_nx HN.out))
      have HT2 := Lib.hid (hw2 wr (GrF.of_nx HN.out))
      have HJ := Lib.hid hlt
      have hlt1 : (j : Int) < (B.txs.length : Int) := by omega
      have hj63 : (j : Int) < 9223372036854775807 := by have := HL63.out; omega
      generalize hq : B.txs[j] = q at *
      clear hq
      obtain ⟨A1, c1, A2, c2, rfl, rfl⟩ := HT1.out.slv
      obtain ⟨A3, c3, A4, c4, rfl, rfl⟩ := HT2.out.slv
      have HC1 : Hid (∀ i v, ((tcl (.slice A1 q.ins.length c1) (.slice A2 q.outs.length c2) q.after).toArray)[i]? = some v → wr.cell? ⟨b, o + j * 3 + i, none⟩ = some v) := Lib.hid (fun i v hv => by
        rw [HN.out.cell (p := ⟨b, o + j * 3 + i, none⟩) hb]
        exact hcell i v (by simpa using hv))
      have HC2 : Hid (∀ i v, ((tcl (.slice A3 q.ins.length c3) (.slice A4 q.outs.length c4) q.after).toArray)[i]? = some v → wr.cell? ⟨b2, o2 + j * 3 + i, none⟩ = some v) := Lib.hid (fun i v hv => by
        rw [HN.out.cell (p := ⟨b2, o2 + j * 3 + i, none⟩) hb2]
        exact hcell2 i v (by simpa using hv))
      have HC1L : Hid (b < wr.heap.size) := Lib.hid (Nat.lt_of_lt_of_le hb HN.out.size)
      have HC2L : Hid (b2 < wr.heap.size) := Lib.hid (Nat.lt_of_lt_of_le hb2 HN.out.size)
      have HSM := Lib.hid (fun w a b => rsameT_yes (.slice A1 q.ins.length c1) (.slice A2 q.outs.length c2) (.slice A3 q.ins.length c3) (.slice A4 q.outs.length c4) q w a b)
      clear hlt hj hcell hcell2 hb hb2 hw hw2
      go_upto_region 6 with fail
      have K1 := HR1.out
      have K2 := HR2.out
      have HNW := HN
      generalize hWW : wr = W at *
      clear hWW
      refine wp_region_nx 12 [[], [0], [], [1, 2], [3], [], [5], [], [6, 7], [8], [4, 9], [10]] [some 27, some 28, some 29, some 30, some 31, some 32, some 33, some 34, some 35, some 36, some 37, some 38]
        [.eq (.pointer (some ⟨w.heap.size, 67, none⟩)), .eq (.slice (some ⟨b, o, none⟩) B.txs.length c), .eq (.int .i64 (j : Int)), .eq (.pointer (some ⟨b, o + j * 3, none⟩)), .eq (.agg (tcl (.slice A1 q.ins.length c1) (.slice A2 q.outs.length c2) q.after).toArray), .eq (.pointer (some ⟨w.heap.size + 1, 67, none⟩)), .eq (.slice (some ⟨b2, o2, none⟩) B.txs.length d), .eq (.int .i64 (j : Int)), .eq (.pointer (some ⟨b2, o2 + j * 3, none⟩)), .eq (.agg (tcl (.slice A3 q.ins.length c3) (.slice A4 q.outs.length c4) q.after).toArray), .eq (.bool true), .eq (.bool false)]
        (by kernel_rfl) (by kernel_rfl) (hord_of (by decide)) (by kernel_rfl) (by decide) (by decide) (htail_of (by decide)) ?_ _ (by rfl) ?_
      · intro x tm wr htm hx i hi hd K hK
        simp only [fillA, List.setIfInBounds_toArray, List.set_cons_zero, List.set_cons_succ] at htm
        subst htm
        have hcs : i = 0 ∨ i = 1 ∨ i = 2 ∨ i = 3 ∨ i = 4 ∨ i = 5 ∨ i = 6 ∨ i = 7 ∨ i = 8 ∨ i = 9 ∨ i = 10 ∨ i = 11 := by omega
        clear hi
        rcases hcs with rfl | rfl | rfl | rfl | rfl | rfl | rfl | rfl | rfl | rfl | rfl | rfl
        · exact wpOp_of rfl rfl (wp_val_of (some 27) rfl (.pointer (some ⟨w.heap.size, 67, none⟩)) (by kernel_rfl) (hK _ _ rfl (Nx.refl _)))
        · have e0 : x 0 = .pointer (some ⟨w.heap.size, 67, none⟩) := hd 0 (by decide)
          generalize x 0 = y0 at e0 hK ⊢
          subst e0
          exact wpOp_of rfl rfl (wp_load_cell (some 28) rfl 27 (.tmp 27) rfl (w.heap.size) 67 rfl (.slice (some ⟨b, o, none⟩) B.txs.length c) _ ((K1.nx hx).cell HK1.out) Tryz.underlying27 rfl (hK _ _ rfl (Nx.refl _)))
        · exact wpOp_of rfl rfl (wp_val_of (some 29) rfl (.int .i64 (j : Int)) (by kernel_rfl) (hK _ _ rfl (Nx.refl _)))
        · have e1 : x 1 = .slice (some ⟨b, o, none⟩) B.txs.length c := hd 1 (by decide)
          have e2 : x 2 = .int .i64 (j : Int) := hd 2 (by decide)
          generalize x 1 = y1 at e1 hK ⊢
          subst e1
          generalize x 2 = y2 at e2 hK ⊢
          subst e2
          exact wpOp_of rfl rfl (wp_ix_of (some 30) rfl 27 54 (.tmp 28) (.tmp 29) rfl Tryz.underlying27 3 Tryz.sizeOf54 b o B.txs.length c j (j : Int) rfl rfl rfl HJ.out (hK _ _ rfl (Nx.refl _)))
        · have e3 : x 3 = .pointer (some ⟨b, o + j * 3, none⟩) := hd 3 (by decide)
          generalize x 3 = y3 at e3 hK ⊢
          subst e3
          exact wpOp_of rfl rfl (wp_load_at (some 31) rfl 54 (.tmp 30) rfl b (o + j * 3) rfl (tcl (.slice A1 q.ins.length c1) (.slice A2 q.outs.length c2) q.after).toArray _ (fun i v hv => by rw [hx.cell (p := ⟨b, o + j * 3 + i, none⟩) HC1L.out]; exact HC1.out i v hv) Tryz.underlying54 rfl (txz _ _ _) (hK _ _ rfl (Nx.refl _)))
        · exact wpOp_of rfl rfl (wp_val_of (some 32) rfl (.pointer (some ⟨w.heap.size + 1, 67, none⟩)) (by kernel_rfl) (hK _ _ rfl (Nx.refl _)))
        · have e5 : x 5 = .pointer (some ⟨w.heap.size + 1, 67, none⟩) := hd 5 (by decide)
          generalize x 5 = y5 at e5 hK ⊢
          subst e5
          exact wpOp_of rfl rfl (wp_load_cell (some 33) rfl 27 (.tmp 32) rfl (w.heap.size + 1) 67 rfl (.slice (some ⟨b2, o2, none⟩) B.txs.length d) _ ((K2.nx hx).cell HK2.out) Tryz.underlying27 rfl (hK _ _ rfl (Nx.refl _)))
        · exact wpOp_of rfl rfl (wp_val_of (some 34) rfl (.int .i64 (j : Int)) (by kernel_rfl) (hK _ _ rfl (Nx.refl _)))
        · have e6 : x 6 = .slice (some ⟨b2, o2, none⟩) B.txs.length d := hd 6 (by decide)
          have e7 : x 7 = .int .i64 (j : Int) := hd 7 (by decide)
          generalize x 6 = y6 at e6 hK ⊢
          subst e6
          generalize x 7 = y7 at e7 hK ⊢
          subst e7
          exact wpOp_of rfl rfl (wp_ix_of (some 35) rfl 27 54 (.tmp 33) (.tmp 34) rfl Tryz.underlying27 3 Tryz.sizeOf54 b2 o2 B.txs.length d j (j : Int) rfl rfl rfl HJ.out (hK _ _ rfl (Nx.refl _)))
        · have e8 : x 8 = .pointer (some ⟨b2, o2 + j * 3, none⟩) := hd 8 (by decide)
          generalize x 8 = y8 at e8 hK ⊢
          subst e8
          exact wpOp_of rfl rfl (wp_load_at (some 36) rfl 54 (.tmp 35) rfl b2 (o2 + j * 3) rfl (tcl (.slice A3 q.ins.length c3) (.slice A4 q.outs.length c4) q.after).toArray _ (fun i v hv => by rw [hx.cell (p := ⟨b2, o2 + j * 3 + i, none⟩) HC2L.out]; exact HC2.out i v hv) Tryz.underlying54 rfl (txz _ _ _) (hK _ _ rfl (Nx.refl _)))
        · have e4 : x 4 = .agg (tcl (.slice A1 q.ins.length c1) (.slice A2 q.outs.length c2) q.after).toArray := hd 4 (by decide)
          have e9 : x 9 = .agg (tcl (.slice A3 q.ins.length c3) (.slice A4 q.outs.length c4) q.after).toArray := hd 9 (by decide)
          generalize x 4 = y4 at e4 hK ⊢
          subst e4
          generalize x 9 = y9 at e9 hK ⊢
          subst e9
          refine wpOp_of rfl rfl (wp_call_of (some 37) rfl 44 #[(.agg (tcl (.slice A1 q.ins.length c1) (.slice A2 q.outs.length c2) q.after).toArray), (.agg (tcl (.slice A3 q.ins.length c3) (.slice A4 q.outs.length c4) q.after).toArray)] (by kernel_rfl) (.bool true) ?_ (fun w' h => hK _ w' rfl h))
          exact (HSM.out wr (HT1.out.nx hx) (HT2.out.nx hx))
        · have e10 : x 10 = .bool true := hd 10 (by decide)
          generalize x 10 = y10 at e10 hK ⊢
          subst e10
          exact wpOp_of rfl rfl (wp_val_of (some 38) rfl (.bool false) (by kernel_rfl) (hK _ _ rfl (Nx.refl _)))
      · intro x tm wr htm hx hv
        simp only [fillA, List.setIfInBounds_toArray, List.set_cons_zero, List.set_cons_succ] at htm
        subst htm
        have e0 : x 0 = .pointer (some ⟨w.heap.size, 67, none⟩) := hv 0 (by decide)
        rw [e0]
        have e1 : x 1 = .slice (some ⟨b, o, none⟩) B.txs.length c := hv 1 (by decide)
        rw [e1]
        have e2 : x 2 = .int .i64 (j : Int) := hv 2 (by decide)
        rw [e2]
        have e3 : x 3 = .pointer (some ⟨b, o + j * 3, none⟩) := hv 3 (by decide)
        rw [e3]
        have e4 : x 4 = .agg (tcl (.slice A1 q.ins.length c1) (.slice A2 q.outs.length c2) q.after).toArray := hv 4 (by decide)
        rw [e4]
        have e5 : x 5 = .pointer (some ⟨w.heap.size + 1, 67, none⟩) := hv 5 (by decide)
        rw [e5]
        have e6 : x 6 = .slice (some ⟨b2, o2, none⟩) B.txs.length d := hv 6 (by decide)
        rw [e6]
        have e7 : x 7 = .int .i64 (j : Int) := hv 7 (by decide)
        rw [e7]
        have e8 : x 8 = .pointer (some ⟨b2, o2 + j * 3, none⟩) := hv 8 (by decide)
        rw [e8]
        have e9 : x 9 = .agg (tcl (.slice A3 q.ins.length c3) (.slice A4 q.outs.length c4) q.after).toArray := hv 9 (by decide)
        rw [e9]
        have e10 : x 10 = .bool true := hv 10 (by decide)
        rw [e10]
        have e11 : x 11 = .bool false := hv 11 (by decide)
        rw [e11]
        have N1 := Lib.hid (HN.out.trans hx)
        have R1 := Lib.hid (K1.nx hx)
        have R2 := Lib.hid (K2.nx hx)
        clear hv hx K1 K2
        go_wp2_with fail
        go_roundw
        case rel => exact ⟨j + 1, by go_num, HJ.out, N1, R1, R2⟩
        case measure => have := HJ.out; simp [intOf]; omega
    · obtain rfl : j = B.txs.length := by omega
      clear hlt hj HEL HEL2
      go_wp2_with fail
      go_ret
      exact ⟨rfl, HN.out⟩
end Go.Proofs.YtejeekbpeinioaaGreatDoor
