/- LAYER 13: what the laws ask of one signature. -/
import Derived.Test.YtpkopigiijiiiaaDoorLm5
import Derived.Test.YtpkopigiijiiiaaDoorLm7
import Derived.Test.YtpkopigiijiiiaaDoorRegSq
namespace Go.Proofs.YtpkopigiijiiiaaDoor
open Go Go.RowKit
set_option linter.unusedVariables false
set_option linter.unusedSimpArgs false
set_option linter.unusedVariables false
set_option linter.unusedSimpArgs false

theorem D32_bit : bitN D32k 1 = 1 := by rw [bitN_two 1 (by decide), if_pos rfl]
theorem chk_none (key d : Bs) : chkE key d [] = 5 := rfl
set_option maxRecDepth 100000 in
set_option maxHeartbeats 8000000 in
theorem lives_any (w : World) (hK : KIs w) :
    Calls Tryd.prog 17 #[] w fun e w' => e = .returned (.bool true) ∧ Nx w w' := by
  have HKK := Lib.hid hK
  have HZ : Hid ((List.replicate 32 (0 : UInt8)).length = 32) := Lib.hid List.length_replicate
  have HD : Hid (D32k.length = 32) := Lib.hid rfl
  have HSGN := Lib.hid (fun W hk => sign_any (List.replicate 32 0) D32k List.length_replicate rfl W hk)
  have HKEY := Lib.hid (fun W hk => key_any (List.replicate 32 0) List.length_replicate W hk)
  have HSL : Hid ((sigL (List.replicate 32 0) D32k).length = 2048) := Lib.hid (sigL_length _ _)
  have HKL : Hid ((keyL (List.replicate 32 0)).length = 32) := Lib.hid (keyL_length _)
  have HK1 : Hid (chkE (keyL (List.replicate 32 0)) D32k (sigL (List.replicate 32 0) D32k) = 0) := Lib.hid (lamp_back _ _ _ fun _ _ => rfl)
  have HK3 : Hid (chkE (keyL (List.replicate 32 0)) (List.replicate 32 0) (sigL (List.replicate 32 0) D32k) = 5) := Lib.hid lamp_other
  have HB1 : Hid (∀ W, Calls Tryd.prog 10 #[.agg (hcel D32k), .int .u8 1] W fun e w' => e = .returned (.int .u8 1) ∧ Nx W w') := Lib.hid fun W => by
    have := bit_any D32k rfl 1 (by decide) W
    rwa [D32_bit] at this
  have HST : Hid ((hcel (List.replicate 32 0)).setIfInBounds 0 (.int .u8 2) = hcel D32k) := Lib.hid (hcel_set (List.replicate 32 0) 0 2 (by simp))
  have HC0 : Hid ((hcel (List.replicate 32 0))[0]? = some (.int .u8 0)) := Lib.hid rfl
  obtain ⟨hz, hzs⟩ := zero_of_info info_hash'
  clear hK
  generalize D32k = D at *
  generalize sigL (List.replicate 32 0) D = SG at *
  generalize keyL (List.replicate 32 0) = KY at *
  generalize (List.replicate 32 (0 : UInt8)) = Z at *
  have zZ := Lib.hid (hashsz Z HZ.out)
  have zD := Lib.hid (hashsz D HD.out)
  have zK := Lib.hid (hashsz KY HKL.out)
  have zZK := Lib.hid (hashsame Z KY HZ.out HKL.out)
  have Q2 := Row.new2 w (.cells (hcel Z) 23) (hcel Z) 23
  have c2 := Q2.cell HC0.out
  have f2 := Q2.frozen 0
  go_enter Tryd.func17, Tryd.ntmps17
  go_upto_region 3 with fail
  rw [HST.out]
  clear c2 f2 Q2
  have Q1s := (Row.new w (hcel Z) 23 _ rfl).alloc (.cells (hcel D) 23)
  have Q2s := Row.new2 w (.cells (hcel Z) 23) (hcel D) 23
  have NS := Lib.hid (((Nx.refl w).alloc (.cells (hcel Z) 23)).alloc (.cells (hcel D) 23))
  go_wp2_with (first | (refine wpList_load_row rfl 23 (.tmp 1) rfl w.heap.size rfl 23 (hcel Z) (0, 0) _ Q1s Tryd.underlying23 rfl zZ.out ?_) | (refine wpList_load_row rfl 23 (.tmp 2) rfl (w.heap.size + 1) rfl 23 (hcel D) (0, 0) _ Q2s Tryd.underlying23 rfl zD.out ?_))
  refine (HSGN.out _ (HKK.out.nx NS.out)).mono ?_
  rintro e w1 ⟨v3, rfl, o3, n3⟩
  have R1 := Lib.hid (Q1s.nx n3)
  have R2 := Lib.hid (Q2s.nx n3)
  have N1 := Lib.hid (NS.out.trans n3)
  have RD3 := Lib.hid o3.rd
  obtain ⟨A3, c3, rfl, -, -, -⟩ := o3.rd
  rw [HSL.out] at RD3 ⊢
  clear o3 n3 Q1s Q2s NS HSGN
  have R1p := R1.out
  go_wp2_with (refine wpList_load_row rfl 23 (.tmp 1) rfl w.heap.size rfl 23 (hcel Z) (0, 0) _ R1p Tryd.underlying23 rfl zZ.out ?_)
  refine (HKEY.out _ (HKK.out.nx N1.out)).mono ?_
  rintro e w2 ⟨rfl, n2⟩
  have RN := Row.new w2 (hcel Z) 23 _ rfl
  go_upto_region 5 with (refine wpList_store_row rfl 23 (.tmp 4) (.tmp 10) rfl w2.heap.size (hcel KY) rfl rfl 23 (hcel Z) RN zK.out zZK.out (hcel_one _) ?_)
  have NB : Nx w1 ((w2.alloc (.cells (hcel Z) 23)).setRow w2.heap.size (hcel KY)) := (n2.alloc _).setRow (g := w2.heap.size) _ n2.size
  have R4 := Lib.hid (RN.setRow (hcel KY))
  replace R1 := Lib.hid (R1.out.nx NB)
  replace R2 := Lib.hid (R2.out.nx NB)
  have N2 := Lib.hid (N1.out.trans NB)
  have RD := Lib.hid (RD3.out.nx NB)
  generalize (w2.alloc (.cells (hcel Z) 23)).setRow w2.heap.size (hcel KY) = W at *
  generalize w2.heap.size = g4 at *
  have HC1 : Hid (∀ wr, Nx W wr → Calls Tryd.prog 20 #[.agg (hcel KY), .agg (hcel D), .slice A3 2048 c3] wr fun e w' => e = .returned (.int .i64 0) ∧ Nx wr w') := Lib.hid fun wr h => by
    have := check_any _ KY D SG wr (RD.out.nx h) HKL.out HD.out (HKK.out.nx (N2.out.trans h))
    rwa [HK1.out] at this
  have HC2 : Hid (∀ wr, Nx W wr → Calls Tryd.prog 20 #[.agg (hcel KY), .agg (hcel D), .slice none 0 0] wr fun e w' => e = .returned (.int .i64 5) ∧ Nx wr w') := Lib.hid fun wr h => by
    have := check_any _ KY D [] wr (Rd.nil wr) HKL.out HD.out (HKK.out.nx (N2.out.trans h))
    rwa [chk_none] at this
  have HC3 : Hid (∀ wr, Nx W wr → Calls Tryd.prog 20 #[.agg (hcel KY), .agg (hcel Z), .slice A3 2048 c3] wr fun e w' => e = .returned (.int .i64 5) ∧ Nx wr w') := Lib.hid fun wr h => by
    have := check_any _ KY Z SG wr (RD.out.nx h) HKL.out HZ.out (HKK.out.nx (N2.out.trans h))
    rwa [HK3.out] at this
  have HBT := HB1
  clear RN NB n2 R1p RD3 HK1 HK3 HKEY
  refine wp_region_sq 29 [some 11, some 12, some 13, some 14, some 15, some 16, some 17, some 18, some 19, some 20, some 21, some 22, some 23, some 24, some 25, some 26, some 27, some 28, some 29, some 30, some 31, some 32, some 33, some 34, some 35, some 36, some 37, some 38, some 0]
    [.eq (.slice A3 2048 c3), .eq (.int .i64 2048), .eq (.bool true), .eq (.bool true), .eq (.agg (hcel KY)), .eq (.agg (hcel D)), .eq (.slice A3 2048 c3), .eq (.int .i64 0), .eq (.bool true), .eq (.bool true), .eq (.bool true), .eq (.agg (hcel KY)), .eq (.agg (hcel D)), .eq (.int .i64 5), .eq (.bool true), .eq (.bool true), .eq (.bool true), .eq (.agg (hcel D)), .eq (.int .u8 1), .eq (.bool true), .eq (.bool true), .eq (.bool true), .eq (.agg (hcel KY)), .eq (.agg (hcel Z)), .eq (.slice A3 2048 c3), .eq (.int .i64 5), .eq (.bool true), .eq (.bool true), .eq (.bool true)]
    (by kernel_rfl) (by decide) (by decide) ?_ ?_
  · intro x tm wr htm hx i hi hd K hK
    simp only [fillA, List.setIfInBounds_toArray, List.set_cons_zero, List.set_cons_succ] at htm
    subst htm
    have hcs : i = 0 ∨ i = 1 ∨ i = 2 ∨ i = 3 ∨ i = 4 ∨ i = 5 ∨ i = 6 ∨ i = 7 ∨ i = 8 ∨ i = 9 ∨ i = 10 ∨ i = 11 ∨ i = 12 ∨ i = 13 ∨ i = 14 ∨ i = 15 ∨ i = 16 ∨ i = 17 ∨ i = 18 ∨ i = 19 ∨ i = 20 ∨ i = 21 ∨ i = 22 ∨ i = 23 ∨ i = 24 ∨ i = 25 ∨ i = 26 ∨ i = 27 ∨ i = 28 := by omega
    clear hi
    rcases hcs with rfl | rfl | rfl | rfl | rfl | rfl | rfl | rfl | rfl | rfl | rfl | rfl | rfl | rfl | rfl | rfl | rfl | rfl | rfl | rfl | rfl | rfl | rfl | rfl | rfl | rfl | rfl | rfl | rfl
    · exact sq_of rfl rfl (wp_val_of (some 11) rfl (.slice A3 2048 c3) (by kernel_rfl) (hK _ _ rfl (Nx.refl _)))
    · have e0 : x 0 = .slice A3 2048 c3 := hd 0 (by decide)
      generalize x 0 = y0 at e0 hK ⊢
      subst e0
      exact sq_of rfl rfl (wp_val_of (some 12) rfl (.int .i64 2048) (by kernel_rfl) (hK _ _ rfl (Nx.refl _)))
    · have e1 : x 1 = .int .i64 2048 := hd 1 (by decide)
      generalize x 1 = y1 at e1 hK ⊢
      subst e1
      exact sq_of rfl rfl (wp_val_of (some 13) rfl (.bool true) (by kernel_rfl) (hK _ _ rfl (Nx.refl _)))
    · have e2 : x 2 = .bool true := hd 2 (by decide)
      generalize x 2 = y2 at e2 hK ⊢
      subst e2
      exact sq_of rfl rfl (wp_val_of (some 14) rfl (.bool true) (by kernel_rfl) (hK _ _ rfl (Nx.refl _)))
    · have e3 : x 3 = .bool true := hd 3 (by decide)
      generalize x 3 = y3 at e3 hK ⊢
      subst e3
      exact sq_g rfl (by rfl) (wp_load_row_of (some 15) rfl 23 (.tmp 4) rfl (g4) rfl 23 (hcel KY) _ (R4.out.nx hx) Tryd.underlying23 rfl zK.out (hK _ _ rfl (Nx.refl _)))
    · have e3 : x 3 = .bool true := hd 3 (by decide)
      generalize x 3 = y3 at e3 hK ⊢
      subst e3
      exact sq_g rfl (by rfl) (wp_load_row_of (some 16) rfl 23 (.tmp 2) rfl ((w.heap.size + 1)) rfl 23 (hcel D) _ (R2.out.nx hx) Tryd.underlying23 rfl zD.out (hK _ _ rfl (Nx.refl _)))
    · have e3 : x 3 = .bool true := hd 3 (by decide)
      generalize x 3 = y3 at e3 hK ⊢
      subst e3
      exact sq_g rfl (by rfl) (wp_val_of (some 17) rfl (.slice A3 2048 c3) (by kernel_rfl) (hK _ _ rfl (Nx.refl _)))
    · have e4 : x 4 = .agg (hcel KY) := hd 4 (by decide)
      have e5 : x 5 = .agg (hcel D) := hd 5 (by decide)
      have e6 : x 6 = .slice A3 2048 c3 := hd 6 (by decide)
      have e3 : x 3 = .bool true := hd 3 (by decide)
      generalize x 4 = y4 at e4 hK ⊢
      subst e4
      generalize x 5 = y5 at e5 hK ⊢
      subst e5
      generalize x 6 = y6 at e6 hK ⊢
      subst e6
      generalize x 3 = y3 at e3 hK ⊢
      subst e3
      refine sq_g rfl (by rfl) (wp_call_of (some 18) rfl 20 #[(.agg (hcel KY)), (.agg (hcel D)), (.slice A3 2048 c3)] (by kernel_rfl) (.int .i64 0) ?_ (fun w' h => hK _ w' rfl h))
      exact HC1.out wr hx
    · have e7 : x 7 = .int .i64 0 := hd 7 (by decide)
      have e3 : x 3 = .bool true := hd 3 (by decide)
      generalize x 7 = y7 at e7 hK ⊢
      subst e7
      generalize x 3 = y3 at e3 hK ⊢
      subst e3
      exact sq_g rfl (by rfl) (wp_val_of (some 19) rfl (.bool true) (by kernel_rfl) (hK _ _ rfl (Nx.refl _)))
    · have e3 : x 3 = .bool true := hd 3 (by decide)
      have e8 : x 8 = .bool true := hd 8 (by decide)
      generalize x 3 = y3 at e3 hK ⊢
      subst e3
      generalize x 8 = y8 at e8 hK ⊢
      subst e8
      exact sq_of rfl rfl (wp_val_of (some 20) rfl (.bool true) (by kernel_rfl) (hK _ _ rfl (Nx.refl _)))
    · have e9 : x 9 = .bool true := hd 9 (by decide)
      generalize x 9 = y9 at e9 hK ⊢
      subst e9
      exact sq_of rfl rfl (wp_val_of (some 21) rfl (.bool true) (by kernel_rfl) (hK _ _ rfl (Nx.refl _)))
    · have e10 : x 10 = .bool true := hd 10 (by decide)
      generalize x 10 = y10 at e10 hK ⊢
      subst e10
      exact sq_g rfl (by rfl) (wp_load_row_of (some 22) rfl 23 (.tmp 4) rfl (g4) rfl 23 (hcel KY) _ (R4.out.nx hx) Tryd.underlying23 rfl zK.out (hK _ _ rfl (Nx.refl _)))
    · have e10 : x 10 = .bool true := hd 10 (by decide)
      generalize x 10 = y10 at e10 hK ⊢
      subst e10
      exact sq_g rfl (by rfl) (wp_load_row_of (some 23) rfl 23 (.tmp 2) rfl ((w.heap.size + 1)) rfl 23 (hcel D) _ (R2.out.nx hx) Tryd.underlying23 rfl zD.out (hK _ _ rfl (Nx.refl _)))
    · have e11 : x 11 = .agg (hcel KY) := hd 11 (by decide)
      have e12 : x 12 = .agg (hcel D) := hd 12 (by decide)
      have e10 : x 10 = .bool true := hd 10 (by decide)
      generalize x 11 = y11 at e11 hK ⊢
      subst e11
      generalize x 12 = y12 at e12 hK ⊢
      subst e12
      generalize x 10 = y10 at e10 hK ⊢
      subst e10
      refine sq_g rfl (by rfl) (wp_call_of (some 24) rfl 20 #[(.agg (hcel KY)), (.agg (hcel D)), .slice none 0 0] (by kernel_rfl) (.int .i64 5) ?_ (fun w' h => hK _ w' rfl h))
      exact HC2.out wr hx
    · have e13 : x 13 = .int .i64 5 := hd 13 (by decide)
      have e10 : x 10 = .bool true := hd 10 (by decide)
      generalize x 13 = y13 at e13 hK ⊢
      subst e13
      generalize x 10 = y10 at e10 hK ⊢
      subst e10
      exact sq_g rfl (by rfl) (wp_val_of (some 25) rfl (.bool true) (by kernel_rfl) (hK _ _ rfl (Nx.refl _)))
    · have e10 : x 10 = .bool true := hd 10 (by decide)
      have e14 : x 14 = .bool true := hd 14 (by decide)
      generalize x 10 = y10 at e10 hK ⊢
      subst e10
      generalize x 14 = y14 at e14 hK ⊢
      subst e14
      exact sq_of rfl rfl (wp_val_of (some 26) rfl (.bool true) (by kernel_rfl) (hK _ _ rfl (Nx.refl _)))
    · have e15 : x 15 = .bool true := hd 15 (by decide)
      generalize x 15 = y15 at e15 hK ⊢
      subst e15
      exact sq_of rfl rfl (wp_val_of (some 27) rfl (.bool true) (by kernel_rfl) (hK _ _ rfl (Nx.refl _)))
    · have e16 : x 16 = .bool true := hd 16 (by decide)
      generalize x 16 = y16 at e16 hK ⊢
      subst e16
      exact sq_g rfl (by rfl) (wp_load_row_of (some 28) rfl 23 (.tmp 2) rfl ((w.heap.size + 1)) rfl 23 (hcel D) _ (R2.out.nx hx) Tryd.underlying23 rfl zD.out (hK _ _ rfl (Nx.refl _)))
    · have e17 : x 17 = .agg (hcel D) := hd 17 (by decide)
      have e16 : x 16 = .bool true := hd 16 (by decide)
      generalize x 17 = y17 at e17 hK ⊢
      subst e17
      generalize x 16 = y16 at e16 hK ⊢
      subst e16
      refine sq_g rfl (by rfl) (wp_call_of (some 29) rfl 10 #[(.agg (hcel D)), .int .u8 1] (by kernel_rfl) (.int .u8 1) ?_ (fun w' h => hK _ w' rfl h))
      exact HBT.out wr
    · have e18 : x 18 = .int .u8 1 := hd 18 (by decide)
      have e16 : x 16 = .bool true := hd 16 (by decide)
      generalize x 18 = y18 at e18 hK ⊢
      subst e18
      generalize x 16 = y16 at e16 hK ⊢
      subst e16
      exact sq_g rfl (by rfl) (wp_val_of (some 30) rfl (.bool true) (by kernel_rfl) (hK _ _ rfl (Nx.refl _)))
    · have e16 : x 16 = .bool true := hd 16 (by decide)
      have e19 : x 19 = .bool true := hd 19 (by decide)
      generalize x 16 = y16 at e16 hK ⊢
      subst e16
      generalize x 19 = y19 at e19 hK ⊢
      subst e19
      exact sq_of rfl rfl (wp_val_of (some 31) rfl (.bool true) (by kernel_rfl) (hK _ _ rfl (Nx.refl _)))
    · have e20 : x 20 = .bool true := hd 20 (by decide)
      generalize x 20 = y20 at e20 hK ⊢
      subst e20
      exact sq_of rfl rfl (wp_val_of (some 32) rfl (.bool true) (by kernel_rfl) (hK _ _ rfl (Nx.refl _)))
    · have e21 : x 21 = .bool true := hd 21 (by decide)
      generalize x 21 = y21 at e21 hK ⊢
      subst e21
      exact sq_g rfl (by rfl) (wp_load_row_of (some 33) rfl 23 (.tmp 4) rfl (g4) rfl 23 (hcel KY) _ (R4.out.nx hx) Tryd.underlying23 rfl zK.out (hK _ _ rfl (Nx.refl _)))
    · have e21 : x 21 = .bool true := hd 21 (by decide)
      generalize x 21 = y21 at e21 hK ⊢
      subst e21
      exact sq_g rfl (by rfl) (wp_load_row_of (some 34) rfl 23 (.tmp 1) rfl (w.heap.size) rfl 23 (hcel Z) _ (R1.out.nx hx) Tryd.underlying23 rfl zZ.out (hK _ _ rfl (Nx.refl _)))
    · have e21 : x 21 = .bool true := hd 21 (by decide)
      generalize x 21 = y21 at e21 hK ⊢
      subst e21
      exact sq_g rfl (by rfl) (wp_val_of (some 35) rfl (.slice A3 2048 c3) (by kernel_rfl) (hK _ _ rfl (Nx.refl _)))
    · have e22 : x 22 = .agg (hcel KY) := hd 22 (by decide)
      have e23 : x 23 = .agg (hcel Z) := hd 23 (by decide)
      have e24 : x 24 = .slice A3 2048 c3 := hd 24 (by decide)
      have e21 : x 21 = .bool true := hd 21 (by decide)
      generalize x 22 = y22 at e22 hK ⊢
      subst e22
      generalize x 23 = y23 at e23 hK ⊢
      subst e23
      generalize x 24 = y24 at e24 hK ⊢
      subst e24
      generalize x 21 = y21 at e21 hK ⊢
      subst e21
      refine sq_g rfl (by rfl) (wp_call_of (some 36) rfl 20 #[(.agg (hcel KY)), (.agg (hcel Z)), (.slice A3 2048 c3)] (by kernel_rfl) (.int .i64 5) ?_ (fun w' h => hK _ w' rfl h))
      exact HC3.out wr hx
    · have e25 : x 25 = .int .i64 5 := hd 25 (by decide)
      have e21 : x 21 = .bool true := hd 21 (by decide)
      generalize x 25 = y25 at e25 hK ⊢
      subst e25
      generalize x 21 = y21 at e21 hK ⊢
      subst e21
      exact sq_g rfl (by rfl) (wp_val_of (some 37) rfl (.bool true) (by kernel_rfl) (hK _ _ rfl (Nx.refl _)))
    · have e21 : x 21 = .bool true := hd 21 (by decide)
      have e26 : x 26 = .bool true := hd 26 (by decide)
      generalize x 21 = y21 at e21 hK ⊢
      subst e21
      generalize x 26 = y26 at e26 hK ⊢
      subst e26
      exact sq_of rfl rfl (wp_val_of (some 38) rfl (.bool true) (by kernel_rfl) (hK _ _ rfl (Nx.refl _)))
    · have e27 : x 27 = .bool true := hd 27 (by decide)
      generalize x 27 = y27 at e27 hK ⊢
      subst e27
      exact sq_of rfl rfl (wp_val_of (some 0) rfl (.bool true) (by kernel_rfl) (hK _ _ rfl (Nx.refl _)))
  · intro x tm wr htm hx hv
    simp only [fillA, List.setIfInBounds_toArray, List.set_cons_zero, List.set_cons_succ] at htm
    subst htm
    have e28 : x 28 = .bool true := hv 28 (by decide)
    rw [e28]
    go_wp2_with fail
    go_ret
    exact ⟨rfl, N2.out.trans hx⟩
end Go.Proofs.YtpkopigiijiiiaaDoor
