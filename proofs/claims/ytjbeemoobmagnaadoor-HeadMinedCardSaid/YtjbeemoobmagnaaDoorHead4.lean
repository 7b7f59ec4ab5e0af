/- LAYER 8: the id of a head, and whether it works, of both sides. -/
import Derived.Test.YtjbeemoobmagnaaDoorHead3
namespace Go.Proofs.YtjbeemoobmagnaaDoor
open Go Go.RowKit
set_option linter.unusedVariables false
set_option linter.unusedSimpArgs false
set_option linter.unusedVariables false
set_option linter.unusedSimpArgs false

/-- The id of a head. -/
def hI (p r : List UInt8) (t b n : Nat) : List UInt8 := shaL (shaL (hdB p r t b n))
theorem hI_length (p r : List UInt8) (t b n : Nat) : (hI p r t b n).length = 32 := shaL_length _
set_option maxHeartbeats 2000000 in
theorem rtw_any (vb : Value) (l : List UInt8) (w : World) (hr : Rd w vb l) (hn : l.length ≤ 140737488354000) :
    Calls Tryd.prog 53 #[vb] w fun e w' => e = .returned (.agg (hcel (shaL (shaL l)))) ∧ Nx w w' := by
  have HR := Lib.hid hr
  have HTW := Lib.hid (fun g w hg h => rtwice_any g vb l w hg h hn)
  have HIL : Hid ((shaL (shaL l)).length = 32) := Lib.hid (shaL_length _)
  have HZL : Hid ((List.replicate 32 (0 : UInt8)).length = 32) := Lib.hid List.length_replicate
  obtain ⟨hz, hzs⟩ := zero_of_info info_hash'
  obtain ⟨A, c, rfl, -, -, -⟩ := hr
  clear hn
  generalize shaL (shaL l) = I at *
  generalize List.replicate 32 (0 : UInt8) = Z at *
  have h2 := Lib.hid (hashsz I HIL.out)
  have h4 := Lib.hid (hashsame Z I HZL.out HIL.out)
  have R1 := Row.new w (hcel Z) 30 _ rfl
  have N0 := Lib.hid ((Nx.refl w).alloc (.cells (hcel Z) 30))
  go_enter Tryd.func53, Tryd.ntmps53
  go_wp2_with fail
  refine (new_any _).mono ?_
  rintro e w1 ⟨g, rfl, hg1, hg2, n1⟩
  have HG := Lib.hid hg2
  have N1 := Lib.hid (N0.out.trans n1)
  have R2 := R1.nx n1
  clear hg1 hg2 n1 R1 N0
  go_wp2_with fail
  refine (HTW.out g _ HG.out (HR.out.nx N1.out)).mono ?_
  rintro e w2 ⟨rfl, n2⟩
  have N2 := Lib.hid (N1.out.trans n2)
  have R3 := R2.nx n2
  have hl : w.heap.size ≤ w.heap.size := Nat.le_refl _
  clear n2 R2
  go_wp2_with (first | (refine wpList_store_row rfl 30 (.tmp 2) (.tmp 5) rfl w.heap.size (hcel I) rfl rfl 30 (hcel Z) R3 h2.out h4.out (hcel_one _) ?_))
  exact bodyPost_ret (results_cell_row Tryd.results53 _ _ w.heap.size 30 (hcel I) (0, 0) _ rfl (R3.setRow _) Tryd.underlying30 rfl h2.out) rfl ⟨rfl, N2.out.setRow _ hl⟩
set_option maxRecDepth 100000 in
set_option maxHeartbeats 2000000 in
theorem hid_any (p r : List UInt8) (t b n : Nat) (H : HOk p r t b n) (w : World) (hk : KIs w) :
    Calls Tryd.prog 20 #[.agg (hdc p r t b n)] w fun e w' => e = .returned (.agg (hcel (hI p r t b n))) ∧ Nx w w' := by
  have HP := Lib.hid (fun w => hput_any p r t b n H.p H.r H.t H.b H.n w)
  have HTW : Hid (∀ W v, Nx w W → Rd W v (hdB p r t b n) → Calls Tryd.prog 52 #[v] W fun e w' => e = .returned (.agg (hcel (hI p r t b n))) ∧ Nx W w') := Lib.hid fun W v x h => twice_any v _ W (hk.nx x) h (by rw [hdB_length _ _ _ _ _ H.p H.r]; decide)
  have HIL : Hid ((hI p r t b n).length = 32) := Lib.hid (shaL_length _)
  have HZL : Hid ((List.replicate 32 (0 : UInt8)).length = 32) := Lib.hid List.length_replicate
  obtain ⟨hz, hzs⟩ := zero_of_info info_hash'
  have hsz := Lib.hid (headsz p r t b n H.p H.r)
  generalize hdB p r t b n = L at *
  generalize hI p r t b n = I at *
  generalize List.replicate 32 (0 : UInt8) = Z at *
  have h2 := Lib.hid (hashsz I HIL.out)
  have h4 := Lib.hid (hashsame Z I HZL.out HIL.out)
  have R0 := (Row.new w (hdc p r t b n) 32 _ rfl).alloc (.cells (hcel Z) 30)
  have R1 := Row.new2 w (.cells (hdc p r t b n) 32) (hcel Z) 30
  have N0 := Lib.hid (((Nx.refl w).alloc (.cells (hdc p r t b n) 32)).alloc (.cells (hcel Z) 30))
  clear H hk
  go_enter Tryd.func20, Tryd.ntmps20
  go_wp2_with (first | (refine wpList_load_row rfl 32 (.tmp 1) rfl w.heap.size rfl 32 (hdc p r t b n) (0, 0) _ R0 Tryd.underlying32 rfl hsz.out ?_))
  refine (HP.out _).mono ?_
  rintro e w1 ⟨v1, rfl, o1, n1⟩
  have O1 := Lib.hid o1.rd
  have N1 := Lib.hid (N0.out.trans n1)
  have R2 := R1.nx n1
  clear o1 n1 R0 R1 N0
  go_wp2_with fail
  refine (HTW.out _ _ N1.out O1.out).mono ?_
  rintro e w2 ⟨rfl, n2⟩
  have N2 := Lib.hid (N1.out.trans n2)
  have R3 := R2.nx n2
  have hl : w.heap.size ≤ w.heap.size + 1 := Nat.le_succ _
  clear n2 R2
  go_wp2_with (first | (refine wpList_store_row rfl 30 (.tmp 2) (.tmp 5) rfl (w.heap.size + 1) (hcel I) rfl rfl 30 (hcel Z) R3 h2.out h4.out (hcel_one _) ?_))
  exact bodyPost_ret (results_cell_row Tryd.results20 _ _ (w.heap.size + 1) 30 (hcel I) (0, 0) _ rfl (R3.setRow _) Tryd.underlying30 rfl h2.out) rfl ⟨rfl, N2.out.setRow _ hl⟩
set_option maxRecDepth 100000 in
set_option maxHeartbeats 2000000 in
theorem rhid_any (p r : List UInt8) (t b n : Nat) (H : HOk p r t b n) (w : World) :
    Calls Tryd.prog 21 #[.agg (hdc p r t b n)] w fun e w' => e = .returned (.agg (hcel (hI p r t b n))) ∧ Nx w w' := by
  have HP := Lib.hid (fun w => rhput_any p r t b n H w)
  have HTW : Hid (∀ W v, Nx w W → Rd W v (hdB p r t b n) → Calls Tryd.prog 53 #[v] W fun e w' => e = .returned (.agg (hcel (hI p r t b n))) ∧ Nx W w') := Lib.hid fun W v x h => rtw_any v _ W h (by rw [hdB_length _ _ _ _ _ H.p H.r]; decide)
  have HIL : Hid ((hI p r t b n).length = 32) := Lib.hid (shaL_length _)
  have HZL : Hid ((List.replicate 32 (0 : UInt8)).length = 32) := Lib.hid List.length_replicate
  obtain ⟨hz, hzs⟩ := zero_of_info info_hash'
  have hsz := Lib.hid (headsz p r t b n H.p H.r)
  generalize hdB p r t b n = L at *
  generalize hI p r t b n = I at *
  generalize List.replicate 32 (0 : UInt8) = Z at *
  have h2 := Lib.hid (hashsz I HIL.out)
  have h4 := Lib.hid (hashsame Z I HZL.out HIL.out)
  have R0 := (Row.new w (hdc p r t b n) 32 _ rfl).alloc (.cells (hcel Z) 30)
  have R1 := Row.new2 w (.cells (hdc p r t b n) 32) (hcel Z) 30
  have N0 := Lib.hid (((Nx.refl w).alloc (.cells (hdc p r t b n) 32)).alloc (.cells (hcel Z) 30))
  clear H
  go_enter Tryd.func21, Tryd.ntmps21
  go_wp2_with (first | (refine wpList_load_row rfl 32 (.tmp 1) rfl w.heap.size rfl 32 (hdc p r t b n) (0, 0) _ R0 Tryd.underlying32 rfl hsz.out ?_))
  refine (HP.out _).mono ?_
  rintro e w1 ⟨v1, rfl, o1, n1⟩
  have O1 := Lib.hid o1.rd
  have N1 := Lib.hid (N0.out.trans n1)
  have R2 := R1.nx n1
  clear o1 n1 R0 R1 N0
  go_wp2_with fail
  refine (HTW.out _ _ N1.out O1.out).mono ?_
  rintro e w2 ⟨rfl, n2⟩
  have N2 := Lib.hid (N1.out.trans n2)
  have R3 := R2.nx n2
  have hl : w.heap.size ≤ w.heap.size + 1 := Nat.le_succ _
  clear n2 R2
  go_wp2_with (first | (refine wpList_store_row rfl 30 (.tmp 2) (.tmp 5) rfl (w.heap.size + 1) (hcel I) rfl rfl 30 (hcel Z) R3 h2.out h4.out (hcel_one _) ?_))
  exact bodyPost_ret (results_cell_row Tryd.results21 _ _ (w.heap.size + 1) 30 (hcel I) (0, 0) _ rfl (R3.setRow _) Tryd.underlying30 rfl h2.out) rfl ⟨rfl, N2.out.setRow _ hl⟩
set_option maxRecDepth 100000 in
set_option maxHeartbeats 2000000 in
theorem hworks_any (p r : List UInt8) (t b n : Nat) (H : HOk p r t b n) (w : World) (hk : KIs w) :
    Calls Tryd.prog 22 #[.agg (hdc p r t b n)] w fun e w' => e = .returned (.bool (meN (hI p r t b n) b)) ∧ Nx w w' := by
  have HI : Hid (∀ W, Nx w W → Calls Tryd.prog 20 #[.agg (hdc p r t b n)] W fun e w' => e = .returned (.agg (hcel (hI p r t b n))) ∧ Nx W w') := Lib.hid fun W x => hid_any p r t b n H W (hk.nx x)
  have HM := Lib.hid (fun w => tmeets_any (hI p r t b n) (shaL_length _) b (by have := H.b; omega) w)
  have hsz := Lib.hid (headsz p r t b n H.p H.r)
  have HCB := Lib.hid (hd_b p r t b n H.p H.r)
  generalize meN (hI p r t b n) b = M at *
  generalize hI p r t b n = I at *
  have R0 := Row.new w (hdc p r t b n) 32 _ rfl
  have N0 := Lib.hid ((Nx.refl w).alloc (.cells (hdc p r t b n) 32))
  clear H hk
  go_enter Tryd.func22, Tryd.ntmps22
  go_wp2_with fail
  generalize w.alloc (.cells (hdc p r t b n) 32) = W at *
  refine wp_region_nx 6 [[], [0], [], [2], [1, 3, 1], [4, 4, 0, 1, 2, 3, 4]] [some 3, some 4, some 5, some 6, some 7, some 2]
    [.eq (.agg (hdc p r t b n)), .eq (.agg (hcel I)), .eq (.pointer (some ⟨w.heap.size, 65, none⟩)), .eq (.int .u32 (b : Int)), .eq (.bool M), .eq (.bool M)]
    (by kernel_rfl) (by kernel_rfl) (hord_of (by decide)) (by kernel_rfl) (by decide) (by decide) (htail_of (by decide)) ?_ _ (by rfl) ?_
  · intro x tm wr htm hx i hi hd K hK
    simp only [fillA, List.setIfInBounds_toArray, List.set_cons_zero, List.set_cons_succ] at htm
    subst htm
    have hcs : i = 0 ∨ i = 1 ∨ i = 2 ∨ i = 3 ∨ i = 4 ∨ i = 5 := by omega
    clear hi
    rcases hcs with rfl | rfl | rfl | rfl | rfl | rfl
    · exact wpOp_of rfl rfl (wp_load_row_of (some 3) rfl 32 (.tmp 1) rfl (w.heap.size) rfl 32 (hdc p r t b n) _ (R0.nx hx) Tryd.underlying32 rfl hsz.out (hK _ _ rfl (Nx.refl _)))
    · have e0 : x 0 = .agg (hdc p r t b n) := hd 0 (by decide)
      generalize x 0 = y0 at e0 hK ⊢
      subst e0
      refine wpOp_of rfl rfl (wp_call_of (some 4) rfl 20 #[(.agg (hdc p r t b n))] (by kernel_rfl) (.agg (hcel I)) ?_ (fun w' h => hK _ w' rfl h))
      exact HI.out wr (N0.out.trans hx)
    · exact wpOp_of rfl rfl (wp_val_of (some 5) rfl (.pointer (some ⟨w.heap.size, 65, none⟩)) (by kernel_rfl) (hK _ _ rfl (Nx.refl _)))
    · have e2 : x 2 = .pointer (some ⟨w.heap.size, 65, none⟩) := hd 2 (by decide)
      generalize x 2 = y2 at e2 hK ⊢
      subst e2
      exact wpOp_of rfl rfl (wp_load_cell (some 6) rfl 22 (.tmp 5) rfl (w.heap.size) 65 rfl (.int .u32 (b : Int)) _ ((R0.nx hx).cell HCB.out) Tryd.underlying22 rfl (hK _ _ rfl (Nx.refl _)))
    · have e1 : x 1 = .agg (hcel I) := hd 1 (by decide)
      have e3 : x 3 = .int .u32 (b : Int) := hd 3 (by decide)
      generalize x 1 = y1 at e1 hK ⊢
      subst e1
      generalize x 3 = y3 at e3 hK ⊢
      subst e3
      refine wpOp_of rfl rfl (wp_call_of (some 7) rfl 54 #[(.agg (hcel I)), (.int .u32 (b : Int))] (by kernel_rfl) (.bool M) ?_ (fun w' h => hK _ w' rfl h))
      exact HM.out wr
    · have e4 : x 4 = .bool M := hd 4 (by decide)
      generalize x 4 = y4 at e4 hK ⊢
      subst e4
      exact wpOp_of rfl rfl (wp_val_of (some 2) rfl (.bool M) (by kernel_rfl) (hK _ _ rfl (Nx.refl _)))
  · intro x tm wr htm hx hv
    simp only [fillA, List.setIfInBounds_toArray, List.set_cons_zero, List.set_cons_succ] at htm
    subst htm
    have e5 : x 5 = .bool M := hv 5 (by decide)
    rw [e5]
    go_wp2_with fail
    go_ret
    exact ⟨rfl, N0.out.trans hx⟩
set_option maxRecDepth 100000 in
set_option maxHeartbeats 2000000 in
theorem rhworks_any (p r : List UInt8) (t b n : Nat) (H : HOk p r t b n) (w : World) :
    Calls Tryd.prog 23 #[.agg (hdc p r t b n)] w fun e w' => e = .returned (.bool (meN (hI p r t b n) b)) ∧ Nx w w' := by
  have HI : Hid (∀ W, Nx w W → Calls Tryd.prog 21 #[.agg (hdc p r t b n)] W fun e w' => e = .returned (.agg (hcel (hI p r t b n))) ∧ Nx W w') := Lib.hid fun W x => rhid_any p r t b n H W
  have HM := Lib.hid (fun w => refTMeets_any (hI p r t b n) (shaL_length _) b (by have := H.b; omega) w)
  have hsz := Lib.hid (headsz p r t b n H.p H.r)
  have HCB := Lib.hid (hd_b p r t b n H.p H.r)
  generalize meN (hI p r t b n) b = M at *
  generalize hI p r t b n = I at *
  have R0 := Row.new w (hdc p r t b n) 32 _ rfl
  have N0 := Lib.hid ((Nx.refl w).alloc (.cells (hdc p r t b n) 32))
  clear H
  go_enter Tryd.func23, Tryd.ntmps23
  go_wp2_with fail
  generalize w.alloc (.cells (hdc p r t b n) 32) = W at *
  refine wp_region_nx 6 [[], [0], [], [2], [1, 3, 1], [4, 4, 0, 1, 2, 3, 4]] [some 3, some 4, some 5, some 6, some 7, some 2]
    [.eq (.agg (hdc p r t b n)), .eq (.agg (hcel I)), .eq (.pointer (some ⟨w.heap.size, 65, none⟩)), .eq (.int .u32 (b : Int)), .eq (.bool M), .eq (.bool M)]
    (by kernel_rfl) (by kernel_rfl) (hord_of (by decide)) (by kernel_rfl) (by decide) (by decide) (htail_of (by decide)) ?_ _ (by rfl) ?_
  · intro x tm wr htm hx i hi hd K hK
    simp only [fillA, List.setIfInBounds_toArray, List.set_cons_zero, List.set_cons_succ] at htm
    subst htm
    have hcs : i = 0 ∨ i = 1 ∨ i = 2 ∨ i = 3 ∨ i = 4 ∨ i = 5 := by omega
    clear hi
    rcases hcs with rfl | rfl | rfl | rfl | rfl | rfl
    · exact wpOp_of rfl rfl (wp_load_row_of (some 3) rfl 32 (.tmp 1) rfl (w.heap.size) rfl 32 (hdc p r t b n) _ (R0.nx hx) Tryd.underlying32 rfl hsz.out (hK _ _ rfl (Nx.refl _)))
    · have e0 : x 0 = .agg (hdc p r t b n) := hd 0 (by decide)
      generalize x 0 = y0 at e0 hK ⊢
      subst e0
      refine wpOp_of rfl rfl (wp_call_of (some 4) rfl 21 #[(.agg (hdc p r t b n))] (by kernel_rfl) (.agg (hcel I)) ?_ (fun w' h => hK _ w' rfl h))
      exact HI.out wr (N0.out.trans hx)
    · exact wpOp_of rfl rfl (wp_val_of (some 5) rfl (.pointer (some ⟨w.heap.size, 65, none⟩)) (by kernel_rfl) (hK _ _ rfl (Nx.refl _)))
    · have e2 : x 2 = .pointer (some ⟨w.heap.size, 65, none⟩) := hd 2 (by decide)
      generalize x 2 = y2 at e2 hK ⊢
      subst e2
      exact wpOp_of rfl rfl (wp_load_cell (some 6) rfl 22 (.tmp 5) rfl (w.heap.size) 65 rfl (.int .u32 (b : Int)) _ ((R0.nx hx).cell HCB.out) Tryd.underlying22 rfl (hK _ _ rfl (Nx.refl _)))
    · have e1 : x 1 = .agg (hcel I) := hd 1 (by decide)
      have e3 : x 3 = .int .u32 (b : Int) := hd 3 (by decide)
      generalize x 1 = y1 at e1 hK ⊢
      subst e1
      generalize x 3 = y3 at e3 hK ⊢
      subst e3
      refine wpOp_of rfl rfl (wp_call_of (some 7) rfl 55 #[(.agg (hcel I)), (.int .u32 (b : Int))] (by kernel_rfl) (.bool M) ?_ (fun w' h => hK _ w' rfl h))
      exact HM.out wr
    · have e4 : x 4 = .bool M := hd 4 (by decide)
      generalize x 4 = y4 at e4 hK ⊢
      subst e4
      exact wpOp_of rfl rfl (wp_val_of (some 2) rfl (.bool M) (by kernel_rfl) (hK _ _ rfl (Nx.refl _)))
  · intro x tm wr htm hx hv
    simp only [fillA, List.setIfInBounds_toArray, List.set_cons_zero, List.set_cons_succ] at htm
    subst htm
    have e5 : x 5 = .bool M := hv 5 (by decide)
    rw [e5]
    go_wp2_with fail
    go_ret
    exact ⟨rfl, N0.out.trans hx⟩
end Go.Proofs.YtjbeemoobmagnaaDoor
