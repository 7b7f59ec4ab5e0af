/- LAYER 10: Sealed of the program. -/
import Derived.Test.YtpijehaciomkhaaDoorBk5
namespace Go.Proofs.YtpijehaciomkhaaDoor
open Go Go.RowKit
set_option linter.unusedVariables false
set_option linter.unusedSimpArgs false
set_option linter.unusedVariables false
set_option linter.unusedSimpArgs false

theorem wpList_g {P : Program} {ops : Array Oper} {rest : List Oper} {o : Oper} {a : Act} {w : World} {Q : Exit → Act → World → Prop} (hw : Region.wanted o (yielded ops a.tmps) = true)
    (h : ∀ K : Act → World → Prop, (∀ a w, wpList P ops Q rest a w → K a w) → o.wp P a w K Q) : wpList P ops Q (o :: rest) a w :=
  wpList_step fun K hK => by rw [if_pos hw]; exact h K hK
theorem ro_cases (l : List Txn) : (roB l = true ∧ roE l = 0) ∨ (roB l = false ∧ (roE l = 2 ∨ roE l = 5)) := by
  unfold roB roE
  cases lisT l <;> cases rootB (idsL l) <;> simp
set_option maxRecDepth 100000 in
set_option maxHeartbeats 8000000 in
theorem sealed_any (tv : Value) (B : Blk) (w : World) (h : BlAt w tv B) (hk : KIs w) (hg : EIs w) :
    Calls Tryd.prog 7 #[.agg (blc B tv)] w fun e w' => e = .returned (.bool (seB B)) ∧ Nx w w' := by
  have HX := Lib.hid h
  have HG := Lib.hid hg
  have HK := Lib.hid hk
  obtain ⟨hz, hzs'⟩ := zero_of_info info_hash'
  have LZ := Lib.hid (show (List.replicate 32 (0 : UInt8)).length = 32 from List.length_replicate)
  generalize List.replicate 32 (0 : UInt8) = ZZ at *
  have RB := Row.new w (blc B tv) 29 _ rfl
  have RB0 := Lib.hid RB
  have N0 := Lib.hid ((Nx.refl w).alloc (.cells (blc B tv) 29))
  have bsz := Lib.hid (blocksz B tv h.h)
  have HI := Lib.hid (fun w h k g => rootOf_any tv B w h k g)
  have LH := Lib.hid (roH_length B.txs)
  have HRL := Lib.hid h.h.r
  have HCS := Lib.hid (ro_cases B.txs)
  have HRC : Hid (∀ j v, (hcel B.r)[j]? = some v → (blc B tv)[32 + j]? = some v) := Lib.hid (fun j v hv => blc_h _ _ _ _ (hcel_at_r h.h.p j v hv))
  have EQ := Lib.hid (fun w => eq_hash2 (roH B.txs) B.r (roH_length _) h.h.r w)
  have HSE : Hid (seB B = (roB B.txs && decide (roH B.txs = B.r))) := Lib.hid rfl
  generalize roH B.txs = H at *
  generalize decide (H = B.r) = D at *
  have iH := Lib.hid (hashsz H LH.out)
  have iR := Lib.hid (hashsz B.r HRL.out)
  have oH := Lib.hid (hashsame ZZ H LZ.out LH.out)
  clear h hg hk
  go_enter Tryd.func7, Tryd.ntmps7
  go_wp2_with (first | (refine wpList_load_row rfl 29 (.tmp 1) rfl w.heap.size rfl 29 (blc B tv) (0, 0) _ RB Tryd.underlying29 rfl bsz.out ?_))
  refine (HI.out _ (HX.out.nx N0.out) (HK.out.nx N0.out) (HG.out.nx N0.out)).mono ?_
  rintro e w1 ⟨rfl, n1⟩
  have N1 := Lib.hid (N0.out.trans n1)
  have RB1 := RB0.out.nx n1
  have hne : w.heap.size ≠ w1.heap.size := by have := RB1.lt; omega
  have RX := Row.new w1 (hcel ZZ) 23 _ rfl
  have RX2 := RX.setRow (hcel H)
  have RB2 := (RB1.alloc (.cells (hcel ZZ) 23)).setRow_other (k := w1.heap.size) (hcel H) hne
  have HC2 := Lib.hid (fun j v hv => RB2.cell (HRC.out j v hv))
  have N3 := Lib.hid ((N1.out.alloc (.cells (hcel ZZ) 23)).setRow (g := w1.heap.size) (hcel H) N1.out.size)
  clear n1 RB RB0 N0 HI hne RB1 RB2 N1
  rcases HCS.out with ⟨hb, he⟩ | ⟨hb, he⟩
  · rw [he]
    have HS : Hid (seB B = D) := Lib.hid (by rw [HSE.out, hb]; rfl)
    clear hb he HCS HSE
    go_wp2_with (first | (refine wpList_store_row rfl 23 (.tmp 3) (.tmp 8) rfl w1.heap.size (hcel H) rfl rfl 23 (hcel ZZ) RX iH.out oH.out (hcel_one _) ?_) | (refine wpList_g (by rfl) fun K hK => ?_; first | (refine wp_load_row_of (some 13) rfl 23 (.tmp 3) rfl w1.heap.size rfl 23 (hcel H) _ RX2 Tryd.underlying23 rfl iH.out (hK _ _ ?_)) | (refine wp_load_at (some 16) rfl 23 (.tmp 15) rfl w.heap.size 32 rfl (hcel B.r) _ HC2.out Tryd.underlying23 rfl iR.out (hK _ _ ?_)) | (refine wp_eql_of (some 17) rfl 23 _ _ _ rfl (hcel H) (hcel B.r) rfl rfl (by kernel_rfl) D (EQ.out _) (hK _ _ ?_))))
    go_ret
    exact ⟨by rw [HS.out]; rfl, N3.out⟩
  · have HS : Hid (seB B = false) := Lib.hid (by rw [HSE.out, hb]; rfl)
    have e2 : ((roE B.txs : Int) == 0) = false := by rw [beq_eq_false_iff_ne]; omega
    generalize roE B.txs = E at *
    clear hb he HCS HSE
    go_wp2_with (first | (refine wpList_store_row rfl 23 (.tmp 3) (.tmp 8) rfl w1.heap.size (hcel H) rfl rfl 23 (hcel ZZ) RX iH.out oH.out (hcel_one _) ?_))
    go_ret
    exact ⟨by rw [HS.out]; rfl, N3.out⟩
end Go.Proofs.YtpijehaciomkhaaDoor
