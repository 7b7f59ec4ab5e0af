/- LAYER 7: what the laws go through; ids. -/
import Derived.Test.YtpijehaciomkhaaDoorTt
import Derived.Test.YtpijehaciomkhaaDoorTk
namespace Go.Proofs.YtpijehaciomkhaaDoor
open Go Go.RowKit
set_option linter.unusedVariables false
set_option linter.unusedSimpArgs false
set_option linter.unusedVariables false
set_option linter.unusedSimpArgs false

/-- Some answer or the other, memory as it was. -/
def SomeB (w : World) (e : Ending) (w' : World) : Prop := ∃ B : Bool, e = .returned (.bool B) ∧ Nx w w'
/-- A transaction's id, or none. -/
def idH (t : Txn) : List UInt8 := if mayT t = true then shaL (shaL (txB t)) else Z32
theorem idH_length (t : Txn) : (idH t).length = 32 := by
  unfold idH
  split
  · exact shaL_length _
  · exact Z32_length
theorem pt_yes {t : Txn} (h : mayT t = true) : ptE t = 0 ∧ ptT t = txB t := by unfold ptE ptT; rw [h]; exact ⟨rfl, rfl⟩
theorem idH_yes {t : Txn} (h : mayT t = true) : idH t = shaL (shaL (txB t)) := by unfold idH; rw [if_pos h]
theorem idH_no {t : Txn} (h : mayT t = false) : idH t = Z32 := by unfold idH; rw [if_neg (by simp [h])]
set_option maxRecDepth 100000 in
set_option maxHeartbeats 4000000 in
theorem txid_any (iv ov : Value) (t : Txn) (w : World) (h : TxAt w iv ov t) (hk : KIs w) :
    Calls Tryd.prog 35 #[.agg #[iv, ov, .int .u32 (t.after : Int)]] w fun e w' => e = .returned (.tuple #[.agg (hcel (idH t)), .int .i64 (ptE t)]) ∧ Nx w w' := by
  have HP := Lib.hid (fun w (x : TxAt w iv ov t) => txput_any iv ov t w x.i x.o x.a x.g)
  have HT := Lib.hid h
  have cz := Lib.hid info_tx
  obtain ⟨A, c, rfl, -⟩ := h.i.elem
  obtain ⟨A2, c2, rfl, -⟩ := h.o.elem
  obtain ⟨hz, hzs⟩ := zero_of_info info_hash7
  have HZL : Hid (Z32.length = 32) := Lib.hid Z32_length
  have K0 := (Row.new w #[.slice A t.ins.length c, .slice A2 t.outs.length c2, .int .u32 (t.after : Int)] 39 _ rfl).alloc (.cells (hcel Z32) 23)
  have R1 := Row.new2 w (.cells #[.slice A t.ins.length c, .slice A2 t.outs.length c2, .int .u32 (t.after : Int)] 39) (hcel Z32) 23
  have N0 := Lib.hid (((Nx.refl w).alloc (.cells #[.slice A t.ins.length c, .slice A2 t.outs.length c2, .int .u32 (t.after : Int)] 39)).alloc (.cells (hcel Z32) 23))
  have io := Lib.hid (show (Tryd.prog.info? 23).map (·.size) = some (hcel Z32).size by rw [hcel_size, Z32_length]; exact hzs)
  have hl : w.heap.size ≤ w.heap.size + 1 := Nat.le_succ _
  cases hm : mayT t
  · obtain ⟨e1, e2⟩ := pt_no hm
    rw [e1, e2] at HP
    rw [e1, idH_no hm]
    clear hm e1 e2 h hk
    go_enter Tryd.func35, Tryd.ntmps35
    go_wp2_with (refine wpList_load_row rfl 39 (.tmp 1) rfl w.heap.size rfl 39 #[.slice A t.ins.length c, .slice A2 t.outs.length c2, .int .u32 (t.after : Int)] (0, 0) _ K0 Tryd.underlying39 rfl cz.out ?_)
    refine (HP.out _ (HT.out.nx N0.out)).mono ?_
    rintro e w1 ⟨r, rfl, o1, n1⟩
    have N1 := Lib.hid (N0.out.trans n1)
    have R2 := R1.nx n1
    clear o1 n1 K0 R1 N0
    go_wp2_with (refine wpList_store_row rfl 23 (.tmp 2) (.tmp 13) rfl (w.heap.size + 1) (hcel Z32) rfl rfl 23 (hcel Z32) R2 io.out rfl (hcel_one _) ?_)
    exact bodyPost_ret (results_cell_row2 Tryd.results35 _ _ (w.heap.size + 1) 23 (hcel Z32) (0, 0) _ rfl (R2.setRow _) Tryd.underlying23 rfl io.out) rfl ⟨rfl, N1.out.setRow _ hl⟩
  · obtain ⟨e1, e2⟩ := pt_yes hm
    rw [e1, e2] at HP
    rw [e1, idH_yes hm]
    have hlen := (show (txB t).length ≤ 8000 by unfold mayT at hm; simp only [Bool.and_eq_true, decide_eq_true_eq] at hm; exact hm.2)
    have HTW : Hid (∀ W v, Nx w W → Rd W v (txB t) → Calls Tryd.prog 52 #[v] W fun e w' => e = .returned (.agg (hcel (shaL (shaL (txB t))))) ∧ Nx W w') := Lib.hid fun W v x h => twice_any v _ W (hk.nx x) h (by omega)
    have HIL : Hid ((shaL (shaL (txB t))).length = 32) := Lib.hid (shaL_length _)
    generalize shaL (shaL (txB t)) = I at *
    have h2 := Lib.hid (hashsz I HIL.out)
    have h4 := Lib.hid (hashsame Z32 I HZL.out HIL.out)
    clear hm e1 e2 h hk hlen
    go_enter Tryd.func35, Tryd.ntmps35
    go_wp2_with (refine wpList_load_row rfl 39 (.tmp 1) rfl w.heap.size rfl 39 #[.slice A t.ins.length c, .slice A2 t.outs.length c2, .int .u32 (t.after : Int)] (0, 0) _ K0 Tryd.underlying39 rfl cz.out ?_)
    refine (HP.out _ (HT.out.nx N0.out)).mono ?_
    rintro e w1 ⟨r, rfl, o1, n1⟩
    have O1 := Lib.hid o1.rd
    have N1 := Lib.hid (N0.out.trans n1)
    have R2 := R1.nx n1
    clear o1 n1 K0 R1 N0
    go_wp2_with fail
    refine (HTW.out _ _ N1.out O1.out).mono ?_
    rintro e w2 ⟨rfl, n2⟩
    have N2 := Lib.hid (N1.out.trans n2)
    have R3 := R2.nx n2
    clear n2 R2
    go_wp2_with (refine wpList_store_row rfl 23 (.tmp 2) (.tmp 16) rfl (w.heap.size + 1) (hcel I) rfl rfl 23 (hcel Z32) R3 h2.out h4.out (hcel_one _) ?_)
    exact bodyPost_ret (results_cell_row2 Tryd.results35 _ _ (w.heap.size + 1) 23 (hcel I) (0, 0) _ rfl (R3.setRow _) Tryd.underlying23 rfl h2.out) rfl ⟨rfl, N2.out.setRow _ hl⟩
end Go.Proofs.YtpijehaciomkhaaDoor
