/- LAYER 10: Ids, the root, and whether a block is sealed, of the program. -/
import Derived.Test.YtpijehaciomkhaaDoorBg
import Derived.Test.YtpijehaciomkhaaDoorBk4
namespace Go.Proofs.YtpijehaciomkhaaDoor
open Go Go.RowKit
set_option linter.unusedVariables false
set_option linter.unusedSimpArgs false
set_option linter.unusedVariables false
set_option linter.unusedSimpArgs false

theorem wpList_bld {P : Program} {w : World} {ops : Array Oper} {rest : List Oper} {o : Oper} {a : Act} {Q : Exit → Act → World → Prop} (hgd : o.guard = none) (ty : TypeId) (parts : Array (Nat × Operand)) (ho : o.op = .build ty parts) (vals : Array (Nat × Value)) (hv : (parts.map fun (i, x) => (i, a.eval x)) = vals) (v : Value)
    (hrun : (Instr.build ty vals).run P w = .ok v w) (h : wpList P ops Q rest (a.put o.dst v) w) : wpList P ops Q (o :: rest) a w :=
  wpList_val _ rfl hgd v (by
    subst hv
    unfold execOp
    simp only [ho]
    simp only [Sem.run_bind, hrun, Result.andThen_ok, Sem.run_pure]) h
def hA : List UInt8 := [1, 0, 0, 0, 0, 0, 0, 0, 0, 0, 0, 0, 0, 0, 0, 0, 0, 0, 0, 0, 0, 0, 0, 0, 0, 0, 0, 0, 0, 0, 0, 0]
def hB : List UInt8 := [2, 0, 0, 0, 0, 0, 0, 0, 0, 0, 0, 0, 0, 0, 0, 0, 0, 0, 0, 0, 0, 0, 0, 0, 0, 0, 0, 0, 0, 0, 0, 0]
theorem li_yes {l : List Txn} (h : lisT l = true) : liE l = 0 ∧ idsL l = l.map idH := by unfold liE idsL; simp [h]
theorem li_no {l : List Txn} (h : lisT l = false) : liE l = 2 ∧ idsL l = [] := by unfold liE idsL; simp [h]
theorem idsL_32 (l : List Txn) : H32 (idsL l) := by
  unfold idsL
  split
  · exact ids32 l
  · exact H32.nil
theorem idsL_len (l : List Txn) : (idsL l).length ≤ 16 := by
  unfold idsL
  split
  · rename_i h; rw [List.length_map]; exact (lisT_parts h).2.1
  · exact Nat.zero_le _
theorem roH_length (l : List Txn) : (roH l).length = 32 := by
  unfold roH
  split
  · exact rootH_length (idsL_32 l)
  · exact Z32_lengthh
set_option maxRecDepth 100000 in
set_option maxHeartbeats 8000000 in
theorem bids_any (tv : Value) (B : Blk) (w : World) (h : BlAt w tv B) (hk : KIs w) (hg : EIs w) :
    Calls Tryd.prog 19 #[.agg (blc B tv)] w fun e w' => ∃ v, e = .returned (.tuple #[v, .int .i64 (liE B.txs)]) ∧ RdE elH w' v (idsL B.txs) ∧ Nx w w' := by
  have HX := Lib.hid h.x
  have HG := Lib.hid hg
  have HK := Lib.hid hk
  obtain ⟨A, c, rfl, -⟩ := h.x.elem
  have k67 := (Row.new w (blc B (.slice A B.txs.length c)) 29 _ rfl).cell (blc_v B (.slice A B.txs.length c) h.h)
  have N0 := Lib.hid ((Nx.refl w).alloc (.cells (blc B (.slice A B.txs.length c)) 29))
  have HE := Lib.hid (fun w h k => eachIds_any (.slice A B.txs.length c) B.txs w h k)
  clear h hg hk
  go_enter Tryd.func19, Tryd.ntmps19
  go_wp2_with fail
  refine (HE.out _ (HX.out.nx N0.out) (HK.out.nx N0.out)).mono ?_
  rintro e w1 ⟨v, ev, rfl, n1, hc⟩
  have N1 := Lib.hid (N0.out.trans n1)
  clear n1 HE k67
  rcases hc with ⟨hl, rfl, hR⟩ | ⟨hl, rfl, he⟩
  · obtain ⟨y1, y2⟩ := li_yes hl
    replace y1 := Lib.hid y1
    replace y2 := Lib.hid y2
    have RR := Lib.hid hR
    obtain ⟨A1, c1, rfl, -⟩ := hR.elem
    clear hl hR
    go_wp2_with fail
    go_ret2
    exact ⟨.slice A1 B.txs.length c1, by rw [y1.out]; rfl, by rw [y2.out]; have := RR.out; rwa [List.length_map] at this, N1.out⟩
  · obtain ⟨y1, y2⟩ := li_no hl
    replace y1 := Lib.hid y1
    replace y2 := Lib.hid y2
    have HNU := Lib.hid (fun w h => bnumber_any ev 2 w he h)
    have G1 := Lib.hid (HG.out.nx N1.out)
    clear hl
    rcases he with rfl | ⟨i, rfl⟩
    all_goals
      go_wp2_with fail
      refine (HNU.out _ G1.out).mono ?_
      rintro e w2 ⟨rfl, n2⟩
      have N2 := Lib.hid (N1.out.trans n2)
      clear n2
      go_wp2_with fail
      go_ret2
      exact ⟨.slice none 0 0, by rw [y1.out]; rfl, by rw [y2.out]; exact RdE.nil _, N2.out⟩
theorem ro_bad {l : List Txn} (h : liE l ≠ 0) : roE l = liE l ∧ roH l = Z32h ∧ roB l = false := by
  unfold roE roH roB liE at *
  cases hl : lisT l
  · simp
  · rw [hl] at h; simp at h
theorem ro_form {l : List Txn} (h : liE l = 0) (hr : rootB (idsL l) = false) : roE l = 5 ∧ roH l = Z32h ∧ roB l = false := by
  unfold roE roH roB liE at *
  cases hl : lisT l
  · rw [hl] at h; simp at h
  · simp [hr]
theorem ro_good {l : List Txn} (h : liE l = 0) (hr : rootB (idsL l) = true) : roE l = 0 ∧ roH l = rootH (idsL l) ∧ roB l = true := by
  unfold roE roH roB liE at *
  cases hl : lisT l
  · rw [hl] at h; simp at h
  · simp [hr, hl]
theorem li_cases (l : List Txn) : liE l = 0 ∨ liE l = 2 := by unfold liE; split <;> simp
set_option maxRecDepth 100000 in
set_option maxHeartbeats 8000000 in
theorem rootOf_any (tv : Value) (B : Blk) (w : World) (h : BlAt w tv B) (hk : KIs w) (hg : EIs w) :
    Calls Tryd.prog 10 #[.agg (blc B tv)] w fun e w' => e = .returned (.tuple #[.agg (hcel (roH B.txs)), .int .i64 (roE B.txs)]) ∧ Nx w w' := by
  have HX := Lib.hid h
  have HG := Lib.hid hg
  have HK := Lib.hid hk
  obtain ⟨hz, hzs'⟩ := zero_of_info info_hash'
  have LZ := Lib.hid (show (List.replicate 32 (0 : UInt8)).length = 32 from List.length_replicate)
  have HZ : Hid (Z32h = List.replicate 32 (0 : UInt8)) := Lib.hid rfl
  have HBZ : Hid (∀ w, (Instr.build 23 #[]).run Tryd.prog w = .ok (.agg (hcel (List.replicate 32 0))) w) := Lib.hid (fun w => by kernel_rfl)
  generalize List.replicate 32 (0 : UInt8) = ZZ at *
  have RB := (Row.new w (blc B tv) 29 _ rfl).alloc (.cells (hcel ZZ) 23)
  have RZ := Lib.hid (Row.new2 w (.cells (blc B tv) 29) (hcel ZZ) 23)
  have N0 := Lib.hid (((Nx.refl w).alloc (.cells (blc B tv) 29)).alloc (.cells (hcel ZZ) 23))
  have bsz := Lib.hid (blocksz B tv h.h)
  have HI := Lib.hid (fun w h k g => bids_any tv B w h k g)
  have HIB := Lib.hid (fun h => ro_bad (l := B.txs) h)
  have HIF := Lib.hid (fun h h2 => ro_form (l := B.txs) h h2)
  have HIG := Lib.hid (fun h h2 => ro_good (l := B.txs) h h2)
  have HLC := Lib.hid (li_cases B.txs)
  have H16 := Lib.hid (idsL_len B.txs)
  have LR := Lib.hid (rootH_length (idsL_32 B.txs))
  have HRT := Lib.hid (fun v w hr hk => mroot_any v (idsL B.txs) w hr (by have := H16.out; omega) hk)
  have iZ := Lib.hid (hashsz ZZ LZ.out)
  clear h hg hk
  go_enter Tryd.func10, Tryd.ntmps10
  go_wp2_with (first | (refine wpList_load_row rfl 29 (.tmp 1) rfl w.heap.size rfl 29 (blc B tv) (0, 0) _ RB Tryd.underlying29 rfl bsz.out ?_))
  refine (HI.out _ (HX.out.nx N0.out) (HK.out.nx N0.out) (HG.out.nx N0.out)).mono ?_
  rintro e w1 ⟨v, rfl, hr, n1⟩
  have N1 := Lib.hid (N0.out.trans n1)
  have RZ1 := RZ.out.nx n1
  have HRD := Lib.hid hr
  obtain ⟨A1, c1, rfl, -⟩ := hr.elem
  clear n1 hr RB RZ N0 HI
  by_cases hE : liE B.txs = 0
  · rw [hE]
    have HE := Lib.hid hE
    clear hE
    go_wp2_with fail
    refine (HRT.out _ _ HRD.out (HK.out.nx N1.out)).mono ?_
    rintro e w2 ⟨rfl, n2⟩
    have N2 := Lib.hid (N1.out.trans n2)
    have RZ2 := RZ1.nx n2
    have hne : w.heap.size + 1 ≠ w2.heap.size := by have := RZ2.lt; omega
    have RX := Row.new w2 (hcel ZZ) 23 _ rfl
    clear n2 N1 RZ1 HRT HRD
    by_cases hB : rootB (idsL B.txs) = true
    · obtain ⟨y1, y2, y3⟩ := HIG.out HE.out hB
      replace y1 := Lib.hid y1
      replace y2 := Lib.hid y2
      rw [hB]
      generalize rootH (idsL B.txs) = RH at *
      have iR := Lib.hid (hashsz RH LR.out)
      have oR := Lib.hid (hashsame ZZ RH LZ.out LR.out)
      have RX2 := RX.setRow (hcel RH)
      have RZ3 := (RZ2.alloc (.cells (hcel ZZ) 23)).setRow_other (k := w2.heap.size) (hcel RH) hne
      have N3 := Lib.hid ((N2.out.alloc (.cells (hcel ZZ) 23)).setRow (g := w2.heap.size) (hcel RH) N2.out.size)
      clear y3 hB HIB HIF HIG hne RZ2
      go_wp2_with (first | (refine wpList_store_row rfl 23 (.tmp 6) (.tmp 20) rfl w2.heap.size (hcel RH) rfl rfl 23 (hcel ZZ) RX iR.out oR.out (hcel_one _) ?_) | (refine wpList_load_row rfl 23 (.tmp 6) rfl w2.heap.size rfl 23 (hcel RH) (0, 0) _ RX2 Tryd.underlying23 rfl iR.out ?_) | (refine wpList_store_row rfl 23 (.tmp 2) (.tmp 25) rfl (w.heap.size + 1) (hcel RH) rfl rfl 23 (hcel ZZ) RZ3 iR.out oR.out (hcel_one _) ?_))
      have hR3 := RZ3.setRow (hcel RH)
      refine bodyPost_ret (v := .tuple #[.agg (hcel RH), .int .i64 0]) ?_ ?_ ?_
      · exact results_cell_row2 Tryd.results10 _ _ (w.heap.size + 1) 23 (hcel RH) (0, 0) _ rfl hR3 Tryd.underlying23 rfl iR.out
      · rfl
      · exact ⟨by rw [y1.out, y2.out], N3.out.setRow _ (Nat.le_succ _)⟩
    · have hB' : rootB (idsL B.txs) = false := by simpa using hB
      obtain ⟨y1, y2, y3⟩ := HIF.out HE.out hB'
      replace y1 := Lib.hid y1
      replace y2 := Lib.hid y2
      rw [hB']
      generalize rootH (idsL B.txs) = RH at *
      have iR := Lib.hid (hashsz RH LR.out)
      have oR := Lib.hid (hashsame ZZ RH LZ.out LR.out)
      have RZ3 := (RZ2.alloc (.cells (hcel ZZ) 23)).setRow_other (k := w2.heap.size) (hcel RH) hne
      have N3 := Lib.hid ((N2.out.alloc (.cells (hcel ZZ) 23)).setRow (g := w2.heap.size) (hcel RH) N2.out.size)
      clear y3 hB hB' HIB HIF HIG hne RZ2
      go_wp2_with (first | (refine wpList_store_row rfl 23 (.tmp 6) (.tmp 20) rfl w2.heap.size (hcel RH) rfl rfl 23 (hcel ZZ) RX iR.out oR.out (hcel_one _) ?_) | (refine wpList_bld rfl 23 #[] rfl #[] (by kernel_rfl) _ (HBZ.out _) ?_) | (refine wpList_store_row rfl 23 (.tmp 2) (.tmp 24) rfl (w.heap.size + 1) (hcel ZZ) rfl rfl 23 (hcel ZZ) RZ3 iZ.out rfl (hcel_one _) ?_))
      refine bodyPost_ret (v := .tuple #[.agg (hcel ZZ), .int .i64 5]) ?_ ?_ ?_
      · exact results_cell_row2 Tryd.results10 _ _ (w.heap.size + 1) 23 (hcel ZZ) (0, 0) _ rfl (RZ3.setRow (hcel ZZ)) Tryd.underlying23 rfl iZ.out
      · rfl
      · exact ⟨by rw [y1.out, y2.out, HZ.out], N3.out.setRow _ (Nat.le_succ _)⟩
  · obtain ⟨y1, y2, y3⟩ := HIB.out hE
    have hE2 : liE B.txs = 2 := by rcases HLC.out with h | h; exact absurd h hE; exact h
    rw [hE2] at y1 ⊢
    replace y1 := Lib.hid y1
    replace y2 := Lib.hid y2
    clear y3 hE hE2 HIB HIF HIG
    go_wp2_with (first | (refine wpList_bld rfl 23 #[] rfl #[] (by kernel_rfl) _ (HBZ.out _) ?_) | (refine wpList_store_row rfl 23 (.tmp 2) (.tmp 15) rfl (w.heap.size + 1) (hcel ZZ) rfl rfl 23 (hcel ZZ) RZ1 iZ.out rfl (hcel_one _) ?_))
    refine bodyPost_ret (v := .tuple #[.agg (hcel ZZ), .int .i64 2]) ?_ ?_ ?_
    · exact results_cell_row2 Tryd.results10 _ _ (w.heap.size + 1) 23 (hcel ZZ) (0, 0) _ rfl (RZ1.setRow (hcel ZZ)) Tryd.underlying23 rfl iZ.out
    · rfl
    · exact ⟨by rw [y1.out, y2.out, HZ.out], N1.out.setRow _ (Nat.le_succ _)⟩
end Go.Proofs.YtpijehaciomkhaaDoor
