/- THE LAW LampMakes. -/
import Derived.Test.YtpkopigiijiiiaaDoorLawLmSpoilt
import Derived.Test.YtpkopigiijiiiaaDoorLm14
namespace Go.Proofs.YtpkopigiijiiiaaDoor
open Go Go.RowKit
set_option linter.unusedVariables false
set_option linter.unusedSimpArgs false
set_option linter.unusedVariables false
set_option linter.unusedSimpArgs false

set_option maxRecDepth 100000 in
set_option maxHeartbeats 16000000 in
theorem lampMakes_law {w : World} (s : Bs) (hs : s.length = 32) (d : Bs) (hd : d.length = 32) (k : Nat) (hk : (k : Int) ≤ 255) (v : Nat) (hv1 : (v : Int) ≤ 255) (hK : KIs w) :
    Calls Tryd.prog 3 #[.agg (hcel s), .agg (hcel d), .int .u8 (k : Int), .int .u8 (v : Int)] w fun e w' => e = .returned (.bool true) ∧ Nx w w' := by
  have HKK := Lib.hid hK
  have zs := Lib.hid (hashsz s hs)
  have zd := Lib.hid (hashsz d hd)
  have R1 := Lib.hid ((Row.new w (hcel s) 23 _ rfl).alloc (.cells (hcel d) 23))
  have R2 := Lib.hid (Row.new2 w (.cells (hcel s) 23) (hcel d) 23)
  have N0 := Lib.hid (((Nx.refl w).alloc (.cells (hcel s) 23)).alloc (.cells (hcel d) 23))
  have HQ1 := Lib.hid (fun W h => secret_any s hs k v (by omega) (by omega) W h)
  have HA2 := Lib.hid (fun W => rsecret_any s hs k v (by omega) (by omega) W)
  have HB1 := Lib.hid (fun W => bit_any d hd k (by omega) W)
  have HB2 := Lib.hid (fun W => rbit_any d hd k (by omega) W)
  have HQ2 := Lib.hid (fun W h => key_any s hs W h)
  have HC2 := Lib.hid (fun W => rkey_any s hs W)
  have HQ3 := Lib.hid (fun W h => sign_any s d hs hd W h)
  have HS2 := Lib.hid (fun W => rsign_any s d hs hd W)
  have EQX := Lib.hid (fun W => eq_hash' (secL s k v) (secL_length _ _ _) W)
  have EQK := Lib.hid (fun W => eq_hash' (keyL s) (keyL_length _) W)
  clear hK hs hd
  generalize secL s k v = X at *
  generalize keyL s = KY at *
  generalize sigL s d = SG at *
  generalize bitN d k = bb at *
  go_enter Tryd.func3, Tryd.ntmps3
  go_wp2_with fail
  generalize (w.alloc (.cells (hcel s) 23)).alloc (.cells (hcel d) 23) = W at *
  have HA1 : Hid (∀ wr, Nx W wr → Calls Tryd.prog 8 #[.agg (hcel s), .int .u8 (k : Int), .int .u8 (v : Int)] wr fun e w' => e = .returned (.agg (hcel X)) ∧ Nx wr w') := Lib.hid fun wr h => HQ1.out wr (HKK.out.nx (N0.out.trans h))
  have HC1 : Hid (∀ wr, Nx W wr → Calls Tryd.prog 12 #[.agg (hcel s)] wr fun e w' => e = .returned (.agg (hcel KY)) ∧ Nx wr w') := Lib.hid fun wr h => HQ2.out wr (HKK.out.nx (N0.out.trans h))
  have HS1 : Hid (∀ wr, Nx W wr → Calls Tryd.prog 15 #[.agg (hcel s), .agg (hcel d)] wr fun e w' => ∃ v, e = .returned v ∧ Go.Proofs.YtpkopigiijiiiaaDoor.Own wr.heap.size w' v SG ∧ Nx wr w') := Lib.hid fun wr h => HQ3.out wr (HKK.out.nx (N0.out.trans h))
  have HLV : Hid (∀ wr, Nx W wr → Calls Tryd.prog 17 #[] wr fun e w' => e = .returned (.bool true) ∧ Nx wr w') := Lib.hid fun wr h => lives_any wr (HKK.out.nx (N0.out.trans h))
  clear HQ1 HQ2 HQ3
  refine wp_region_nx 38 [[], [], [], [0, 1, 2], [], [], [], [4, 5, 6, 3], [3, 7], [8, 7], [9], [9], [10, 11, 9, 9], [9], [9], [13, 14, 12, 9], [12, 15, 9], [9, 16], [17, 15], [18], [19, 18, 18], [18], [21, 20, 18], [20, 22, 18], [18, 23], [24, 22], [25], [25], [26, 27, 25, 25], [25], [25], [29, 30, 28, 25], [28, 31, 31, 25], [25, 32], [33, 32], [34, 34], [34, 35], [36, 35, 0, 1, 2, 3, 4, 5, 6, 7, 8, 9, 10, 11, 12, 13, 14, 15, 16, 17, 18, 19, 20, 21, 22, 23, 24, 25, 26, 27, 28, 29, 30, 31, 32, 33, 34, 35, 36]] [some 9, some 10, some 11, some 12, some 13, some 14, some 15, some 16, some 17, some 18, some 19, some 20, some 21, some 22, some 23, some 24, some 25, some 26, some 27, some 28, some 29, some 30, some 31, some 32, some 33, some 34, some 35, some 36, some 37, some 38, some 39, some 40, some 41, some 42, some 43, some 44, some 45, some 8]
    [.eq (.agg (hcel s)), .eq (.int .u8 (k : Int)), .eq (.int .u8 (v : Int)), .eq (.agg (hcel X)), .eq (.agg (hcel s)), .eq (.int .u8 (k : Int)), .eq (.int .u8 (v : Int)), .eq (.agg (hcel X)), .eq (.bool true), .eq (.bool true), .eq (.agg (hcel d)), .eq (.int .u8 (k : Int)), .eq (.int .u8 (bb : Int)), .eq (.agg (hcel d)), .eq (.int .u8 (k : Int)), .eq (.int .u8 (bb : Int)), .eq (.bool true), .eq (.bool true), .eq (.bool true), .eq (.agg (hcel s)), .eq (.agg (hcel KY)), .eq (.agg (hcel s)), .eq (.agg (hcel KY)), .eq (.bool true), .eq (.bool true), .eq (.bool true), .eq (.agg (hcel s)), .eq (.agg (hcel d)), .rd (SG), .eq (.agg (hcel s)), .eq (.agg (hcel d)), .rd SG, .eq (.bool true), .eq (.bool true), .eq (.bool true), .eq (.bool true), .eq (.bool true), .eq (.bool true)]
    (by kernel_rfl) (by kernel_rfl) (hord_of (by decide)) (by kernel_rfl) (by decide) (by decide) (htail_of (by decide)) ?_ _ (by rfl) ?_
  · intro x tm wr htm hx i hi hd K hK
    simp only [fillA, List.setIfInBounds_toArray, List.set_cons_zero, List.set_cons_succ] at htm
    subst htm
    have hcs : i = 0 ∨ i = 1 ∨ i = 2 ∨ i = 3 ∨ i = 4 ∨ i = 5 ∨ i = 6 ∨ i = 7 ∨ i = 8 ∨ i = 9 ∨ i = 10 ∨ i = 11 ∨ i = 12 ∨ i = 13 ∨ i = 14 ∨ i = 15 ∨ i = 16 ∨ i = 17 ∨ i = 18 ∨ i = 19 ∨ i = 20 ∨ i = 21 ∨ i = 22 ∨ i = 23 ∨ i = 24 ∨ i = 25 ∨ i = 26 ∨ i = 27 ∨ i = 28 ∨ i = 29 ∨ i = 30 ∨ i = 31 ∨ i = 32 ∨ i = 33 ∨ i = 34 ∨ i = 35 ∨ i = 36 ∨ i = 37 := by omega
    clear hi
    rcases hcs with rfl | rfl | rfl | rfl | rfl | rfl | rfl | rfl | rfl | rfl | rfl | rfl | rfl | rfl | rfl | rfl | rfl | rfl | rfl | rfl | rfl | rfl | rfl | rfl | rfl | rfl | rfl | rfl | rfl | rfl | rfl | rfl | rfl | rfl | rfl | rfl | rfl | rfl
    · exact wpOp_of rfl rfl (wp_load_row_of (some 9) rfl 23 (.tmp 4) rfl (w.heap.size) rfl 23 (hcel s) _ (R1.out.nx hx) Tryd.underlying23 rfl zs.out (hK _ _ rfl (Nx.refl _)))
    · exact wpOp_of rfl rfl (wp_val_of (some 10) rfl (.int .u8 (k : Int)) (by kernel_rfl) (hK _ _ rfl (Nx.refl _)))
    · exact wpOp_of rfl rfl (wp_val_of (some 11) rfl (.int .u8 (v : Int)) (by kernel_rfl) (hK _ _ rfl (Nx.refl _)))
    · have e0 : x 0 = .agg (hcel s) := hd 0 (by decide)
      have e1 : x 1 = .int .u8 (k : Int) := hd 1 (by decide)
      have e2 : x 2 = .int .u8 (v : Int) := hd 2 (by decide)
      generalize x 0 = y0 at e0 hK ⊢
      subst e0
      generalize x 1 = y1 at e1 hK ⊢
      subst e1
      generalize x 2 = y2 at e2 hK ⊢
      subst e2
      refine wpOp_of rfl rfl (wp_call_of (some 12) rfl 8 #[(.agg (hcel s)), (.int .u8 (k : Int)), (.int .u8 (v : Int))] (by kernel_rfl) (.agg (hcel X)) ?_ (fun w' h => hK _ w' rfl h))
      exact HA1.out wr hx
    · exact wpOp_of rfl rfl (wp_load_row_of (some 13) rfl 23 (.tmp 4) rfl (w.heap.size) rfl 23 (hcel s) _ (R1.out.nx hx) Tryd.underlying23 rfl zs.out (hK _ _ rfl (Nx.refl _)))
    · exact wpOp_of rfl rfl (wp_val_of (some 14) rfl (.int .u8 (k : Int)) (by kernel_rfl) (hK _ _ rfl (Nx.refl _)))
    · exact wpOp_of rfl rfl (wp_val_of (some 15) rfl (.int .u8 (v : Int)) (by kernel_rfl) (hK _ _ rfl (Nx.refl _)))
    · have e4 : x 4 = .agg (hcel s) := hd 4 (by decide)
      have e5 : x 5 = .int .u8 (k : Int) := hd 5 (by decide)
      have e6 : x 6 = .int .u8 (v : Int) := hd 6 (by decide)
      have e3 : x 3 = .agg (hcel X) := hd 3 (by decide)
      generalize x 4 = y4 at e4 hK ⊢
      subst e4
      generalize x 5 = y5 at e5 hK ⊢
      subst e5
      generalize x 6 = y6 at e6 hK ⊢
      subst e6
      generalize x 3 = y3 at e3 hK ⊢
      subst e3
      refine wpOp_of rfl rfl (wp_call_of (some 16) rfl 9 #[(.agg (hcel s)), (.int .u8 (k : Int)), (.int .u8 (v : Int))] (by kernel_rfl) (.agg (hcel X)) ?_ (fun w' h => hK _ w' rfl h))
      exact HA2.out wr
    · have e3 : x 3 = .agg (hcel X) := hd 3 (by decide)
      have e7 : x 7 = .agg (hcel X) := hd 7 (by decide)
      generalize x 3 = y3 at e3 hK ⊢
      subst e3
      generalize x 7 = y7 at e7 hK ⊢
      subst e7
      exact wpOp_of rfl rfl (wp_eql_of (some 17) rfl 23 _ _ _ rfl (hcel X) (hcel X) rfl rfl (by kernel_rfl) true (EQX.out wr) (hK _ _ rfl (Nx.refl _)))
    · have e8 : x 8 = .bool true := hd 8 (by decide)
      have e7 : x 7 = .agg (hcel X) := hd 7 (by decide)
      generalize x 8 = y8 at e8 hK ⊢
      subst e8
      generalize x 7 = y7 at e7 hK ⊢
      subst e7
      exact wpOp_of rfl rfl (wp_val_of (some 18) rfl (.bool true) (by kernel_rfl) (hK _ _ rfl (Nx.refl _)))
    · have e9 : x 9 = .bool true := hd 9 (by decide)
      generalize x 9 = y9 at e9 hK ⊢
      subst e9
      exact wpOp_g rfl (by rfl) (wp_load_row_of (some 19) rfl 23 (.tmp 5) rfl ((w.heap.size + 1)) rfl 23 (hcel d) _ (R2.out.nx hx) Tryd.underlying23 rfl zd.out (hK _ _ rfl (Nx.refl _)))
    · have e9 : x 9 = .bool true := hd 9 (by decide)
      generalize x 9 = y9 at e9 hK ⊢
      subst e9
      exact wpOp_g rfl (by rfl) (wp_val_of (some 20) rfl (.int .u8 (k : Int)) (by kernel_rfl) (hK _ _ rfl (Nx.refl _)))
    · have e10 : x 10 = .agg (hcel d) := hd 10 (by decide)
      have e11 : x 11 = .int .u8 (k : Int) := hd 11 (by decide)
      have e9 : x 9 = .bool true := hd 9 (by decide)
      generalize x 10 = y10 at e10 hK ⊢
      subst e10
      generalize x 11 = y11 at e11 hK ⊢
      subst e11
      generalize x 9 = y9 at e9 hK ⊢
      subst e9
      refine wpOp_g rfl (by rfl) (wp_call_of (some 21) rfl 10 #[(.agg (hcel d)), (.int .u8 (k : Int))] (by kernel_rfl) (.int .u8 (bb : Int)) ?_ (fun w' h => hK _ w' rfl h))
      exact HB1.out wr
    · have e9 : x 9 = .bool true := hd 9 (by decide)
      generalize x 9 = y9 at e9 hK ⊢
      subst e9
      exact wpOp_g rfl (by rfl) (wp_load_row_of (some 22) rfl 23 (.tmp 5) rfl ((w.heap.size + 1)) rfl 23 (hcel d) _ (R2.out.nx hx) Tryd.underlying23 rfl zd.out (hK _ _ rfl (Nx.refl _)))
    · have e9 : x 9 = .bool true := hd 9 (by decide)
      generalize x 9 = y9 at e9 hK ⊢
      subst e9
      exact wpOp_g rfl (by rfl) (wp_val_of (some 23) rfl (.int .u8 (k : Int)) (by kernel_rfl) (hK _ _ rfl (Nx.refl _)))
    · have e13 : x 13 = .agg (hcel d) := hd 13 (by decide)
      have e14 : x 14 = .int .u8 (k : Int) := hd 14 (by decide)
      have e12 : x 12 = .int .u8 (bb : Int) := hd 12 (by decide)
      have e9 : x 9 = .bool true := hd 9 (by decide)
      generalize x 13 = y13 at e13 hK ⊢
      subst e13
      generalize x 14 = y14 at e14 hK ⊢
      subst e14
      generalize x 12 = y12 at e12 hK ⊢
      subst e12
      generalize x 9 = y9 at e9 hK ⊢
      subst e9
      refine wpOp_g rfl (by rfl) (wp_call_of (some 24) rfl 11 #[(.agg (hcel d)), (.int .u8 (k : Int))] (by kernel_rfl) (.int .u8 (bb : Int)) ?_ (fun w' h => hK _ w' rfl h))
      exact HB2.out wr
    · have e12 : x 12 = .int .u8 (bb : Int) := hd 12 (by decide)
      have e15 : x 15 = .int .u8 (bb : Int) := hd 15 (by decide)
      have e9 : x 9 = .bool true := hd 9 (by decide)
      generalize x 12 = y12 at e12 hK ⊢
      subst e12
      generalize x 15 = y15 at e15 hK ⊢
      subst e15
      generalize x 9 = y9 at e9 hK ⊢
      subst e9
      exact wpOp_g rfl (by rfl) (wp_eqi13 (some 25) rfl _ _ _ _ rfl .u8 (bb : Int) rfl rfl (hK _ _ rfl (Nx.refl _)))
    · have e9 : x 9 = .bool true := hd 9 (by decide)
      have e16 : x 16 = .bool true := hd 16 (by decide)
      generalize x 9 = y9 at e9 hK ⊢
      subst e9
      generalize x 16 = y16 at e16 hK ⊢
      subst e16
      exact wpOp_of rfl rfl (wp_val_of (some 26) rfl (.bool true) (by kernel_rfl) (hK _ _ rfl (Nx.refl _)))
    · have e17 : x 17 = .bool true := hd 17 (by decide)
      have e15 : x 15 = .int .u8 (bb : Int) := hd 15 (by decide)
      generalize x 17 = y17 at e17 hK ⊢
      subst e17
      generalize x 15 = y15 at e15 hK ⊢
      subst e15
      exact wpOp_of rfl rfl (wp_val_of (some 27) rfl (.bool true) (by kernel_rfl) (hK _ _ rfl (Nx.refl _)))
    · have e18 : x 18 = .bool true := hd 18 (by decide)
      generalize x 18 = y18 at e18 hK ⊢
      subst e18
      exact wpOp_g rfl (by rfl) (wp_load_row_of (some 28) rfl 23 (.tmp 4) rfl (w.heap.size) rfl 23 (hcel s) _ (R1.out.nx hx) Tryd.underlying23 rfl zs.out (hK _ _ rfl (Nx.refl _)))
    · have e19 : x 19 = .agg (hcel s) := hd 19 (by decide)
      have e18 : x 18 = .bool true := hd 18 (by decide)
      generalize x 19 = y19 at e19 hK ⊢
      subst e19
      generalize x 18 = y18 at e18 hK ⊢
      subst e18
      refine wpOp_g rfl (by rfl) (wp_call_of (some 29) rfl 12 #[(.agg (hcel s))] (by kernel_rfl) (.agg (hcel KY)) ?_ (fun w' h => hK _ w' rfl h))
      exact HC1.out wr hx
    · have e18 : x 18 = .bool true := hd 18 (by decide)
      generalize x 18 = y18 at e18 hK ⊢
      subst e18
      exact wpOp_g rfl (by rfl) (wp_load_row_of (some 30) rfl 23 (.tmp 4) rfl (w.heap.size) rfl 23 (hcel s) _ (R1.out.nx hx) Tryd.underlying23 rfl zs.out (hK _ _ rfl (Nx.refl _)))
    · have e21 : x 21 = .agg (hcel s) := hd 21 (by decide)
      have e20 : x 20 = .agg (hcel KY) := hd 20 (by decide)
      have e18 : x 18 = .bool true := hd 18 (by decide)
      generalize x 21 = y21 at e21 hK ⊢
      subst e21
      generalize x 20 = y20 at e20 hK ⊢
      subst e20
      generalize x 18 = y18 at e18 hK ⊢
      subst e18
      refine wpOp_g rfl (by rfl) (wp_call_of (some 31) rfl 13 #[(.agg (hcel s))] (by kernel_rfl) (.agg (hcel KY)) ?_ (fun w' h => hK _ w' rfl h))
      exact HC2.out wr
    · have e20 : x 20 = .agg (hcel KY) := hd 20 (by decide)
      have e22 : x 22 = .agg (hcel KY) := hd 22 (by decide)
      have e18 : x 18 = .bool true := hd 18 (by decide)
      generalize x 20 = y20 at e20 hK ⊢
      subst e20
      generalize x 22 = y22 at e22 hK ⊢
      subst e22
      generalize x 18 = y18 at e18 hK ⊢
      subst e18
      exact wpOp_g rfl (by rfl) (wp_eql_of (some 32) rfl 23 _ _ _ rfl (hcel KY) (hcel KY) rfl rfl (by kernel_rfl) true (EQK.out wr) (hK _ _ rfl (Nx.refl _)))
    · have e18 : x 18 = .bool true := hd 18 (by decide)
      have e23 : x 23 = .bool true := hd 23 (by decide)
      generalize x 18 = y18 at e18 hK ⊢
      subst e18
      generalize x 23 = y23 at e23 hK ⊢
      subst e23
      exact wpOp_of rfl rfl (wp_val_of (some 33) rfl (.bool true) (by kernel_rfl) (hK _ _ rfl (Nx.refl _)))
    · have e24 : x 24 = .bool true := hd 24 (by decide)
      have e22 : x 22 = .agg (hcel KY) := hd 22 (by decide)
      generalize x 24 = y24 at e24 hK ⊢
      subst e24
      generalize x 22 = y22 at e22 hK ⊢
      subst e22
      exact wpOp_of rfl rfl (wp_val_of (some 34) rfl (.bool true) (by kernel_rfl) (hK _ _ rfl (Nx.refl _)))
    · have e25 : x 25 = .bool true := hd 25 (by decide)
      generalize x 25 = y25 at e25 hK ⊢
      subst e25
      exact wpOp_g rfl (by rfl) (wp_load_row_of (some 35) rfl 23 (.tmp 4) rfl (w.heap.size) rfl 23 (hcel s) _ (R1.out.nx hx) Tryd.underlying23 rfl zs.out (hK _ _ rfl (Nx.refl _)))
    · have e25 : x 25 = .bool true := hd 25 (by decide)
      generalize x 25 = y25 at e25 hK ⊢
      subst e25
      exact wpOp_g rfl (by rfl) (wp_load_row_of (some 36) rfl 23 (.tmp 5) rfl ((w.heap.size + 1)) rfl 23 (hcel d) _ (R2.out.nx hx) Tryd.underlying23 rfl zd.out (hK _ _ rfl (Nx.refl _)))
    · have e26 : x 26 = .agg (hcel s) := hd 26 (by decide)
      have e27 : x 27 = .agg (hcel d) := hd 27 (by decide)
      have e25 : x 25 = .bool true := hd 25 (by decide)
      generalize x 26 = y26 at e26 hK ⊢
      subst e26
      generalize x 27 = y27 at e27 hK ⊢
      subst e27
      generalize x 25 = y25 at e25 hK ⊢
      subst e25
      refine wpOp_g rfl (by rfl) (wp_callp_of (some 37) rfl 15 #[(.agg (hcel s)), (.agg (hcel d))] (by kernel_rfl) (fun v w' => Rd w' v (SG)) ?_ hK)
      exact (HS1.out wr hx).mono fun _ _ ⟨v, h1, h2, h3⟩ => ⟨v, h1, h2.rd, h3⟩
    · have e25 : x 25 = .bool true := hd 25 (by decide)
      generalize x 25 = y25 at e25 hK ⊢
      subst e25
      exact wpOp_g rfl (by rfl) (wp_load_row_of (some 38) rfl 23 (.tmp 4) rfl (w.heap.size) rfl 23 (hcel s) _ (R1.out.nx hx) Tryd.underlying23 rfl zs.out (hK _ _ rfl (Nx.refl _)))
    · have e25 : x 25 = .bool true := hd 25 (by decide)
      generalize x 25 = y25 at e25 hK ⊢
      subst e25
      exact wpOp_g rfl (by rfl) (wp_load_row_of (some 39) rfl 23 (.tmp 5) rfl ((w.heap.size + 1)) rfl 23 (hcel d) _ (R2.out.nx hx) Tryd.underlying23 rfl zd.out (hK _ _ rfl (Nx.refl _)))
    · have e29 : x 29 = .agg (hcel s) := hd 29 (by decide)
      have e30 : x 30 = .agg (hcel d) := hd 30 (by decide)
      have e25 : x 25 = .bool true := hd 25 (by decide)
      generalize x 29 = y29 at e29 hK ⊢
      subst e29
      generalize x 30 = y30 at e30 hK ⊢
      subst e30
      generalize x 25 = y25 at e25 hK ⊢
      subst e25
      refine wpOp_g rfl (by rfl) (wp_callp_of (some 40) rfl 16 #[.agg (hcel s), .agg (hcel d)] (by kernel_rfl) (fun v w' => Rd w' v (SG)) ?_ hK)
      exact HS2.out wr
    · have r28 : Rd wr (x 28) (SG) := hd 28 (by decide)
      have r31 := hd 31 (by decide)
      have e25 : x 25 = .bool true := hd 25 (by decide)
      generalize x 25 = y25 at e25 hK ⊢
      subst e25
      refine wpOp_g rfl (by rfl) (wp_call_of (some 41) rfl 14 #[x 28, x 31] (by kernel_rfl) (.bool true) ?_ (fun w' h => hK _ w' rfl h))
      exact same_yes _ _ SG wr r28 r31
    · have e25 : x 25 = .bool true := hd 25 (by decide)
      have e32 : x 32 = .bool true := hd 32 (by decide)
      generalize x 25 = y25 at e25 hK ⊢
      subst e25
      generalize x 32 = y32 at e32 hK ⊢
      subst e32
      exact wpOp_of rfl rfl (wp_val_of (some 42) rfl (.bool true) (by kernel_rfl) (hK _ _ rfl (Nx.refl _)))
    · have e33 : x 33 = .bool true := hd 33 (by decide)
      have e32 : x 32 = .bool true := hd 32 (by decide)
      generalize x 33 = y33 at e33 hK ⊢
      subst e33
      generalize x 32 = y32 at e32 hK ⊢
      subst e32
      exact wpOp_of rfl rfl (wp_val_of (some 43) rfl (.bool true) (by kernel_rfl) (hK _ _ rfl (Nx.refl _)))
    · have e34 : x 34 = .bool true := hd 34 (by decide)
      generalize x 34 = y34 at e34 hK ⊢
      subst e34
      refine wpOp_g rfl (by rfl) (wp_call_of (some 44) rfl 17 #[] (by kernel_rfl) (.bool true) ?_ (fun w' h => hK _ w' rfl h))
      exact HLV.out wr hx
    · have e34 : x 34 = .bool true := hd 34 (by decide)
      have e35 : x 35 = .bool true := hd 35 (by decide)
      generalize x 34 = y34 at e34 hK ⊢
      subst e34
      generalize x 35 = y35 at e35 hK ⊢
      subst e35
      exact wpOp_of rfl rfl (wp_val_of (some 45) rfl (.bool true) (by kernel_rfl) (hK _ _ rfl (Nx.refl _)))
    · have e36 : x 36 = .bool true := hd 36 (by decide)
      have e35 : x 35 = .bool true := hd 35 (by decide)
      have e0 : x 0 = .agg (hcel s) := hd 0 (by decide)
      have e1 : x 1 = .int .u8 (k : Int) := hd 1 (by decide)
      have e2 : x 2 = .int .u8 (v : Int) := hd 2 (by decide)
      have e3 : x 3 = .agg (hcel X) := hd 3 (by decide)
      have e4 : x 4 = .agg (hcel s) := hd 4 (by decide)
      have e5 : x 5 = .int .u8 (k : Int) := hd 5 (by decide)
      have e6 : x 6 = .int .u8 (v : Int) := hd 6 (by decide)
      have e7 : x 7 = .agg (hcel X) := hd 7 (by decide)
      have e8 : x 8 = .bool true := hd 8 (by decide)
      have e9 : x 9 = .bool true := hd 9 (by decide)
      have e10 : x 10 = .agg (hcel d) := hd 10 (by decide)
      have e11 : x 11 = .int .u8 (k : Int) := hd 11 (by decide)
      have e12 : x 12 = .int .u8 (bb : Int) := hd 12 (by decide)
      have e13 : x 13 = .agg (hcel d) := hd 13 (by decide)
      have e14 : x 14 = .int .u8 (k : Int) := hd 14 (by decide)
      have e15 : x 15 = .int .u8 (bb : Int) := hd 15 (by decide)
      have e16 : x 16 = .bool true := hd 16 (by decide)
      have e17 : x 17 = .bool true := hd 17 (by decide)
      have e18 : x 18 = .bool true := hd 18 (by decide)
      have e19 : x 19 = .agg (hcel s) := hd 19 (by decide)
      have e20 : x 20 = .agg (hcel KY) := hd 20 (by decide)
      have e21 : x 21 = .agg (hcel s) := hd 21 (by decide)
      have e22 : x 22 = .agg (hcel KY) := hd 22 (by decide)
      have e23 : x 23 = .bool true := hd 23 (by decide)
      have e24 : x 24 = .bool true := hd 24 (by decide)
      have e25 : x 25 = .bool true := hd 25 (by decide)
      have e26 : x 26 = .agg (hcel s) := hd 26 (by decide)
      have e27 : x 27 = .agg (hcel d) := hd 27 (by decide)
      have r28 : Rd wr (x 28) (SG) := hd 28 (by decide)
      have e29 : x 29 = .agg (hcel s) := hd 29 (by decide)
      have e30 : x 30 = .agg (hcel d) := hd 30 (by decide)
      have r31 := hd 31 (by decide)
      have e32 : x 32 = .bool true := hd 32 (by decide)
      have e33 : x 33 = .bool true := hd 33 (by decide)
      have e34 : x 34 = .bool true := hd 34 (by decide)
      generalize x 36 = y36 at e36 hK ⊢
      subst e36
      generalize x 35 = y35 at e35 hK ⊢
      subst e35
      generalize x 0 = y0 at e0 hK ⊢
      subst e0
      generalize x 1 = y1 at e1 hK ⊢
      subst e1
      generalize x 2 = y2 at e2 hK ⊢
      subst e2
      generalize x 3 = y3 at e3 hK ⊢
      subst e3
      generalize x 4 = y4 at e4 hK ⊢
      subst e4
      generalize x 5 = y5 at e5 hK ⊢
      subst e5
      generalize x 6 = y6 at e6 hK ⊢
      subst e6
      generalize x 7 = y7 at e7 hK ⊢
      subst e7
      generalize x 8 = y8 at e8 hK ⊢
      subst e8
      generalize x 9 = y9 at e9 hK ⊢
      subst e9
      generalize x 10 = y10 at e10 hK ⊢
      subst e10
      generalize x 11 = y11 at e11 hK ⊢
      subst e11
      generalize x 12 = y12 at e12 hK ⊢
      subst e12
      generalize x 13 = y13 at e13 hK ⊢
      subst e13
      generalize x 14 = y14 at e14 hK ⊢
      subst e14
      generalize x 15 = y15 at e15 hK ⊢
      subst e15
      generalize x 16 = y16 at e16 hK ⊢
      subst e16
      generalize x 17 = y17 at e17 hK ⊢
      subst e17
      generalize x 18 = y18 at e18 hK ⊢
      subst e18
      generalize x 19 = y19 at e19 hK ⊢
      subst e19
      generalize x 20 = y20 at e20 hK ⊢
      subst e20
      generalize x 21 = y21 at e21 hK ⊢
      subst e21
      generalize x 22 = y22 at e22 hK ⊢
      subst e22
      generalize x 23 = y23 at e23 hK ⊢
      subst e23
      generalize x 24 = y24 at e24 hK ⊢
      subst e24
      generalize x 25 = y25 at e25 hK ⊢
      subst e25
      generalize x 26 = y26 at e26 hK ⊢
      subst e26
      generalize x 27 = y27 at e27 hK ⊢
      subst e27
      generalize x 29 = y29 at e29 hK ⊢
      subst e29
      generalize x 30 = y30 at e30 hK ⊢
      subst e30
      generalize x 32 = y32 at e32 hK ⊢
      subst e32
      generalize x 33 = y33 at e33 hK ⊢
      subst e33
      generalize x 34 = y34 at e34 hK ⊢
      subst e34
      exact wpOp_of rfl rfl (wp_val_of (some 8) rfl (.bool true) (by kernel_rfl) (hK _ _ rfl (Nx.refl _)))
  · intro x tm wr htm hx hv
    simp only [fillA, List.setIfInBounds_toArray, List.set_cons_zero, List.set_cons_succ] at htm
    subst htm
    have e37 : x 37 = .bool true := hv 37 (by decide)
    rw [e37]
    simp only [List.drop_succ_cons, List.drop_nil, List.drop_zero]
    refine wpList_nil ?_
    have NZ := Lib.hid (N0.out.trans hx)
    clear hx hv
    go_wp2_with fail
    go_ret
    exact ⟨rfl, NZ.out⟩
end Go.Proofs.YtpkopigiijiiiaaDoor
