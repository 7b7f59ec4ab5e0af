/- THE LAW LampBack. -/
import Derived.Test.YtpkopigiijiiiaaDoorLm8
import Derived.Test.YtpkopigiijiiiaaDoorTb
namespace Go.Proofs.YtpkopigiijiiiaaDoor
open Go Go.RowKit
set_option linter.unusedVariables false
set_option linter.unusedSimpArgs false
set_option linter.unusedVariables false
set_option linter.unusedSimpArgs false

theorem take4_set (d o : Bs) (hd : d.length = 32) (ho : o.length = 32) (k : Nat) (hk : k < 4) : (d.take k ++ o.drop k).set k (d[k]'(by omega)) = d.take (k + 1) ++ o.drop (k + 1) := by
  rw [List.take_succ_eq_append_getElem (by omega), List.set_append_right _ _ (by rw [List.length_take]; omega), show k - (d.take k).length = 0 by rw [List.length_take]; omega, List.drop_eq_getElem_cons (show k < o.length by omega), List.set_cons_zero, List.append_assoc]
  rfl
theorem take4_getD (d o : Bs) (hd : d.length = 32) (i : Nat) (hi : i < 4) : (d.take 4 ++ o.drop 4).getD i 0 = d.getD i 0 := by
  rw [List.getD_eq_getElem?_getD, List.getD_eq_getElem?_getD, List.getElem?_append_left (by rw [List.length_take]; omega), List.getElem?_take_of_lt hi]
theorem own_set {B : Nat} {W : World} {v : Value} {l : Bs} (h : Own B W v l) (g i : Nat) (u : Value) (hg : g < B) : Own B (W.setCell ⟨g, i, none⟩ u) v l := by
  have hgr : W.grownBy (W.setCell ⟨g, i, none⟩ u) (some g) := ⟨rfl, rfl, rfl, by simp [World.setCell], fun k _ hk => heap_setCell_other W ⟨g, i, none⟩ k u (fun e => hk (by rw [e]))⟩
  exact h.grown hgr (fun b hb e => by cases e; have := h.block _ hb; omega)
set_option maxRecDepth 100000 in
set_option maxHeartbeats 8000000 in
theorem lampBack_law {w : World} (s : Bs) (hs : s.length = 32) (d : Bs) (hd : d.length = 32) (o : Bs) (ho : o.length = 32) (hK : KIs w) :
    Calls Tryd.prog 5 #[.agg (hcel s), .agg (hcel d), .agg (hcel o)] w fun e w' => e = .returned (.bool true) ∧ Nx w w' := by
  have HKK := Lib.hid hK
  have HSGN := Lib.hid (fun W hk => sign_any s d hs hd W hk)
  have HSL : Hid ((sigL s d).length = 2048) := Lib.hid (sigL_length _ _)
  have HKL : Hid ((keyL s).length = 32) := Lib.hid (keyL_length _)
  have HKEY := Lib.hid (fun W hk => key_any s hs W hk)
  have HE1 : Hid (chkE (keyL s) d (sigL s d) = 0) := Lib.hid (lamp_back _ _ _ fun _ _ => rfl)
  have HE2 : Hid (chkE (keyL s) (d.take 4 ++ o.drop 4) (sigL s d) = 0) := Lib.hid (lamp_back _ _ _ fun k _ => bitN_same d _ (fun i hi => take4_getD d o hd i hi) k)
  have HL4 : Hid (∀ k, k ≤ 4 → (d.take k ++ o.drop k).length = 32) := Lib.hid fun k hk => by rw [List.length_append, List.length_take, List.length_drop]; omega
  have HST := Lib.hid (fun k hk => take4_set d o hd ho k hk)
  have HDG : Hid (∀ k (hk : k < 4), (hcel d)[k]? = some (bv (d[k]'(by omega)))) := Lib.hid fun k hk => hcel_get d k (by omega)
  have HOG : Hid (∀ k, k < 4 → ∃ u, (hcel (d.take k ++ o.drop k))[k]? = some u) := Lib.hid fun k hk => by
    have hl : k < (d.take k ++ o.drop k).length := by rw [List.length_append, List.length_take, List.length_drop]; omega
    exact ⟨_, hcel_get _ k hl⟩
  have HOS : Hid (∀ k (hk : k < 4), (hcel (d.take k ++ o.drop k)).setIfInBounds k (bv (d[k]'(by omega))) = hcel (d.take (k + 1) ++ o.drop (k + 1))) := Lib.hid fun k hk => by
    rw [hcel_set _ k _ (by rw [List.length_append, List.length_take, List.length_drop]; omega), take4_set d o hd ho k hk]
  have zs := Lib.hid (hashsz s hs)
  have zd := Lib.hid (hashsz d hd)
  have HDL := Lib.hid hd
  have Q1 := ((Row.new w (hcel s) 23 _ rfl).alloc (.cells (hcel d) 23)).alloc (.cells (hcel o) 23)
  have Q2 := (Row.new2 w (.cells (hcel s) 23) (hcel d) 23).alloc (.cells (hcel o) 23)
  have Q3 := Row.new3 w (.cells (hcel s) 23) (.cells (hcel d) 23) (hcel o) 23
  have N0 := Lib.hid ((((Nx.refl w).alloc (.cells (hcel s) 23)).alloc (.cells (hcel d) 23)).alloc (.cells (hcel o) 23))
  clear hK hs ho
  go_enter Tryd.func5, Tryd.ntmps5
  go_wp2_with (first | (refine wpList_load_row rfl 23 (.tmp 3) rfl w.heap.size rfl 23 (hcel s) (0, 0) _ Q1 Tryd.underlying23 rfl zs.out ?_) | (refine wpList_load_row rfl 23 (.tmp 4) rfl (w.heap.size + 1) rfl 23 (hcel d) (0, 0) _ Q2 Tryd.underlying23 rfl zd.out ?_))
  refine (HSGN.out _ (HKK.out.nx N0.out)).mono ?_
  rintro e w1 ⟨v3, rfl, o3, n3⟩
  replace Q1 := Q1.nx n3
  replace Q2 := Q2.nx n3
  replace Q3 := Q3.nx n3
  have N1 := Lib.hid (N0.out.trans n3)
  have RD3 := Lib.hid (o3.mono (B' := w.heap.size + 1 + 1 + 1) (by rw [alloc_size, alloc_size, alloc_size]; exact Nat.le_refl _))
  obtain ⟨A3, c3, rfl, -, -, -⟩ := o3.rd
  rw [HSL.out] at RD3 ⊢
  clear o3 n3 N0 HSGN
  go_wp2_with fail
  go_loopw [8] (fun i wr => ∃ k : Nat, k ≤ 4 ∧ i = .int .i64 (k : Int) ∧ Row wr w.heap.size (hcel s) 23 ∧ Row wr (w.heap.size + 1) (hcel d) 23 ∧ Row wr (w.heap.size + 1 + 1) (hcel (d.take k ++ o.drop k)) 23 ∧ Hid (Own (w.heap.size + 1 + 1 + 1) wr (.slice A3 2048 c3) (sigL s d)) ∧ Hid (Nx w wr)) (fun i _ => 4 - (intOf i).toNat)
  case atStart => exact ⟨0, Nat.zero_le _, rfl, Q1, Q2, by simpa using Q3, RD3, N1⟩
  case round =>
    clear Q1 Q2 Q3 RD3 N1
    obtain ⟨k, hk, rfl, Q1, Q2, Q3, RD3, N1⟩ := hrel
    by_cases hlt : k < 4
    · have hlti : (k : Int) < 4 := by omega
      have hk32 : (k : Int) < 32 := by omega
      have c1 := Q2.cell (HDG.out k hlt)
      obtain ⟨u, hu⟩ := HOG.out k hlt
      have c2 := Q3.cell hu
      have f2 := Q3.frozen k
      have X3 := Q3.set k (bv (d[k]'(by rw [HDL.out]; omega)))
      rw [HOS.out k hlt] at X3
      have X1 := Q1.other (w.heap.size + 1 + 1) k (bv (d[k]'(by rw [HDL.out]; omega))) (by omega)
      have X2 := Q2.other (w.heap.size + 1 + 1) k (bv (d[k]'(by rw [HDL.out]; omega))) (by omega)
      have NS : Nx w (wr.setCell ⟨w.heap.size + 1 + 1, k, none⟩ (bv (d[k]'(by rw [HDL.out]; omega)))) := N1.out.setAt (k := w.heap.size + 1 + 1) (i := k) _ (by omega)
      have XO := Lib.hid (own_set RD3.out (w.heap.size + 1 + 1) k (bv (d[k]'(by rw [HDL.out]; omega))) (by omega))
      have NSH := Lib.hid NS
      clear NS RD3
      generalize (d[k]'(by rw [HDL.out]; omega)) = x at *
      go_wp2_with fail
      go_roundw
      case rel => exact ⟨k + 1, by omega, by go_num, X1, X2, X3, XO, NSH⟩
      case measure => simp [intOf]; omega
    · obtain rfl : k = 4 := by omega
      have R1 := Lib.hid Q1
      have R2 := Lib.hid Q2
      have hO4 : (d.take 4 ++ o.drop 4).length = 32 := HL4.out 4 (Nat.le_refl _)
      have HKYL := HKL.out
      have HC1 : Hid (∀ W, Nx wr W → Calls Tryd.prog 20 #[.agg (hcel (keyL s)), .agg (hcel d), .slice A3 2048 c3] W fun e w' => e = .returned (.int .i64 0) ∧ Nx W w') := Lib.hid fun W h => by
        have := check_any _ (keyL s) d (sigL s d) W (RD3.out.rd.nx h) HKL.out HDL.out (HKK.out.nx (N1.out.trans h))
        rwa [HE1.out] at this
      have HC2 : Hid (∀ W, Nx wr W → Calls Tryd.prog 20 #[.agg (hcel (keyL s)), .agg (hcel (d.take 4 ++ o.drop 4)), .slice A3 2048 c3] W fun e w' => e = .returned (.int .i64 0) ∧ Nx W w') := Lib.hid fun W h => by
        have := check_any _ (keyL s) (d.take 4 ++ o.drop 4) (sigL s d) W (RD3.out.rd.nx h) HKL.out hO4 (HKK.out.nx (N1.out.trans h))
        rwa [HE2.out] at this
      have HKY : Hid (∀ W, Nx wr W → Calls Tryd.prog 12 #[.agg (hcel s)] W fun e w' => e = .returned (.agg (hcel (keyL s))) ∧ Nx W w') := Lib.hid fun W h => HKEY.out W (HKK.out.nx (N1.out.trans h))
      have HLV : Hid (∀ W, Nx wr W → Calls Tryd.prog 17 #[] W fun e w' => e = .returned (.bool true) ∧ Nx W w') := Lib.hid fun W h => lives_any W (HKK.out.nx (N1.out.trans h))
      have zo := Lib.hid (hashsz (d.take 4 ++ o.drop 4) hO4)
      have R3 := Lib.hid Q3
      clear Q1 Q2 Q3 RD3 HKEY HE1 HE2 HL4 HST HDG HOG HOS HKYL hO4
      generalize d.take 4 ++ o.drop 4 = O4 at *
      generalize keyL s = KY at *
      generalize sigL s d = SG at *
      go_wp2_with fail
      refine wp_region_nx 18 [[], [0], [], [], [1, 2, 3, 1], [4], [5, 4], [6], [7, 6, 6], [6], [6], [8, 9, 10, 8, 6], [11, 6], [6, 12], [13, 11], [14, 14], [14, 15], [16, 15, 0, 1, 2, 3, 4, 5, 6, 7, 8, 9, 10, 11, 12, 13, 14, 15, 16]] [some 21, some 22, some 23, some 24, some 25, some 26, some 27, some 28, some 29, some 30, some 31, some 32, some 33, some 34, some 35, some 36, some 37, some 6]
        [.eq (.agg (hcel s)), .eq (.agg (hcel KY)), .eq (.agg (hcel d)), .eq (.slice A3 2048 c3), .eq (.int .i64 0), .eq (.bool true), .eq (.bool true), .eq (.agg (hcel s)), .eq (.agg (hcel KY)), .eq (.agg (hcel O4)), .eq (.slice A3 2048 c3), .eq (.int .i64 0), .eq (.bool true), .eq (.bool true), .eq (.bool true), .eq (.bool true), .eq (.bool true), .eq (.bool true)]
        (by kernel_rfl) (by kernel_rfl) (hord_of (by decide)) (by kernel_rfl) (by decide) (by decide) (htail_of (by decide)) ?_ _ (by rfl) ?_
      · intro x tm wr htm hx i hi hd K hK
        simp only [fillA, List.setIfInBounds_toArray, List.set_cons_zero, List.set_cons_succ] at htm
        subst htm
        have hcs : i = 0 ∨ i = 1 ∨ i = 2 ∨ i = 3 ∨ i = 4 ∨ i = 5 ∨ i = 6 ∨ i = 7 ∨ i = 8 ∨ i = 9 ∨ i = 10 ∨ i = 11 ∨ i = 12 ∨ i = 13 ∨ i = 14 ∨ i = 15 ∨ i = 16 ∨ i = 17 := by omega
        clear hi
        rcases hcs with rfl | rfl | rfl | rfl | rfl | rfl | rfl | rfl | rfl | rfl | rfl | rfl | rfl | rfl | rfl | rfl | rfl | rfl
        · exact wpOp_of rfl rfl (wp_load_row_of (some 21) rfl 23 (.tmp 3) rfl (w.heap.size) rfl 23 (hcel s) _ (R1.out.nx hx) Tryd.underlying23 rfl zs.out (hK _ _ rfl (Nx.refl _)))
        · have e0 : x 0 = .agg (hcel s) := hd 0 (by decide)
          generalize x 0 = y0 at e0 hK ⊢
          subst e0
          refine wpOp_of rfl rfl (wp_call_of (some 22) rfl 12 #[(.agg (hcel s))] (by kernel_rfl) (.agg (hcel KY)) ?_ (fun w' h => hK _ w' rfl h))
          exact HKY.out wr hx
        · exact wpOp_of rfl rfl (wp_load_row_of (some 23) rfl 23 (.tmp 4) rfl ((w.heap.size + 1)) rfl 23 (hcel d) _ (R2.out.nx hx) Tryd.underlying23 rfl zd.out (hK _ _ rfl (Nx.refl _)))
        · exact wpOp_of rfl rfl (wp_val_of (some 24) rfl (.slice A3 2048 c3) (by kernel_rfl) (hK _ _ rfl (Nx.refl _)))
        · have e1 : x 1 = .agg (hcel KY) := hd 1 (by decide)
          have e2 : x 2 = .agg (hcel d) := hd 2 (by decide)
          have e3 : x 3 = .slice A3 2048 c3 := hd 3 (by decide)
          generalize x 1 = y1 at e1 hK ⊢
          subst e1
          generalize x 2 = y2 at e2 hK ⊢
          subst e2
          generalize x 3 = y3 at e3 hK ⊢
          subst e3
          refine wpOp_of rfl rfl (wp_call_of (some 25) rfl 20 #[(.agg (hcel KY)), (.agg (hcel d)), (.slice A3 2048 c3)] (by kernel_rfl) (.int .i64 0) ?_ (fun w' h => hK _ w' rfl h))
          exact HC1.out wr hx
        · have e4 : x 4 = .int .i64 0 := hd 4 (by decide)
          generalize x 4 = y4 at e4 hK ⊢
          subst e4
          exact wpOp_of rfl rfl (wp_val_of (some 26) rfl (.bool true) (by kernel_rfl) (hK _ _ rfl (Nx.refl _)))
        · have e5 : x 5 = .bool true := hd 5 (by decide)
          have e4 : x 4 = .int .i64 0 := hd 4 (by decide)
          generalize x 5 = y5 at e5 hK ⊢
          subst e5
          generalize x 4 = y4 at e4 hK ⊢
          subst e4
          exact wpOp_of rfl rfl (wp_val_of (some 27) rfl (.bool true) (by kernel_rfl) (hK _ _ rfl (Nx.refl _)))
        · have e6 : x 6 = .bool true := hd 6 (by decide)
          generalize x 6 = y6 at e6 hK ⊢
          subst e6
          exact wpOp_g rfl (by rfl) (wp_load_row_of (some 28) rfl 23 (.tmp 3) rfl (w.heap.size) rfl 23 (hcel s) _ (R1.out.nx hx) Tryd.underlying23 rfl zs.out (hK _ _ rfl (Nx.refl _)))
        · have e7 : x 7 = .agg (hcel s) := hd 7 (by decide)
          have e6 : x 6 = .bool true := hd 6 (by decide)
          generalize x 7 = y7 at e7 hK ⊢
          subst e7
          generalize x 6 = y6 at e6 hK ⊢
          subst e6
          refine wpOp_g rfl (by rfl) (wp_call_of (some 29) rfl 12 #[(.agg (hcel s))] (by kernel_rfl) (.agg (hcel KY)) ?_ (fun w' h => hK _ w' rfl h))
          exact HKY.out wr hx
        · have e6 : x 6 = .bool true := hd 6 (by decide)
          generalize x 6 = y6 at e6 hK ⊢
          subst e6
          exact wpOp_g rfl (by rfl) (wp_load_row_of (some 30) rfl 23 (.tmp 5) rfl ((w.heap.size + 1 + 1)) rfl 23 (hcel O4) _ (R3.out.nx hx) Tryd.underlying23 rfl zo.out (hK _ _ rfl (Nx.refl _)))
        · have e6 : x 6 = .bool true := hd 6 (by decide)
          generalize x 6 = y6 at e6 hK ⊢
          subst e6
          exact wpOp_g rfl (by rfl) (wp_val_of (some 31) rfl (.slice A3 2048 c3) (by kernel_rfl) (hK _ _ rfl (Nx.refl _)))
        · have e8 : x 8 = .agg (hcel KY) := hd 8 (by decide)
          have e9 : x 9 = .agg (hcel O4) := hd 9 (by decide)
          have e10 : x 10 = .slice A3 2048 c3 := hd 10 (by decide)
          have e6 : x 6 = .bool true := hd 6 (by decide)
          generalize x 8 = y8 at e8 hK ⊢
          subst e8
          generalize x 9 = y9 at e9 hK ⊢
          subst e9
          generalize x 10 = y10 at e10 hK ⊢
          subst e10
          generalize x 6 = y6 at e6 hK ⊢
          subst e6
          refine wpOp_g rfl (by rfl) (wp_call_of (some 32) rfl 20 #[(.agg (hcel KY)), (.agg (hcel O4)), (.slice A3 2048 c3)] (by kernel_rfl) (.int .i64 0) ?_ (fun w' h => hK _ w' rfl h))
          exact HC2.out wr hx
        · have e11 : x 11 = .int .i64 0 := hd 11 (by decide)
          have e6 : x 6 = .bool true := hd 6 (by decide)
          generalize x 11 = y11 at e11 hK ⊢
          subst e11
          generalize x 6 = y6 at e6 hK ⊢
          subst e6
          exact wpOp_g rfl (by rfl) (wp_val_of (some 33) rfl (.bool true) (by kernel_rfl) (hK _ _ rfl (Nx.refl _)))
        · have e6 : x 6 = .bool true := hd 6 (by decide)
          have e12 : x 12 = .bool true := hd 12 (by decide)
          generalize x 6 = y6 at e6 hK ⊢
          subst e6
          generalize x 12 = y12 at e12 hK ⊢
          subst e12
          exact wpOp_of rfl rfl (wp_val_of (some 34) rfl (.bool true) (by kernel_rfl) (hK _ _ rfl (Nx.refl _)))
        · have e13 : x 13 = .bool true := hd 13 (by decide)
          have e11 : x 11 = .int .i64 0 := hd 11 (by decide)
          generalize x 13 = y13 at e13 hK ⊢
          subst e13
          generalize x 11 = y11 at e11 hK ⊢
          subst e11
          exact wpOp_of rfl rfl (wp_val_of (some 35) rfl (.bool true) (by kernel_rfl) (hK _ _ rfl (Nx.refl _)))
        · have e14 : x 14 = .bool true := hd 14 (by decide)
          generalize x 14 = y14 at e14 hK ⊢
          subst e14
          refine wpOp_g rfl (by rfl) (wp_call_of (some 36) rfl 17 #[] (by kernel_rfl) (.bool true) ?_ (fun w' h => hK _ w' rfl h))
          exact HLV.out wr hx
        · have e14 : x 14 = .bool true := hd 14 (by decide)
          have e15 : x 15 = .bool true := hd 15 (by decide)
          generalize x 14 = y14 at e14 hK ⊢
          subst e14
          generalize x 15 = y15 at e15 hK ⊢
          subst e15
          exact wpOp_of rfl rfl (wp_val_of (some 37) rfl (.bool true) (by kernel_rfl) (hK _ _ rfl (Nx.refl _)))
        · have e16 : x 16 = .bool true := hd 16 (by decide)
          have e15 : x 15 = .bool true := hd 15 (by decide)
          have e0 : x 0 = .agg (hcel s) := hd 0 (by decide)
          have e1 : x 1 = .agg (hcel KY) := hd 1 (by decide)
          have e2 : x 2 = .agg (hcel d) := hd 2 (by decide)
          have e3 : x 3 = .slice A3 2048 c3 := hd 3 (by decide)
          have e4 : x 4 = .int .i64 0 := hd 4 (by decide)
          have e5 : x 5 = .bool true := hd 5 (by decide)
          have e6 : x 6 = .bool true := hd 6 (by decide)
          have e7 : x 7 = .agg (hcel s) := hd 7 (by decide)
          have e8 : x 8 = .agg (hcel KY) := hd 8 (by decide)
          have e9 : x 9 = .agg (hcel O4) := hd 9 (by decide)
          have e10 : x 10 = .slice A3 2048 c3 := hd 10 (by decide)
          have e11 : x 11 = .int .i64 0 := hd 11 (by decide)
          have e12 : x 12 = .bool true := hd 12 (by decide)
          have e13 : x 13 = .bool true := hd 13 (by decide)
          have e14 : x 14 = .bool true := hd 14 (by decide)
          generalize x 16 = y16 at e16 hK ⊢
          subst e16
          generalize x 15 = y15 at e15 hK ⊢
          subst e15
          generalize x 0 = y0 at e0 hK ⊢
          subst e0
          generalize x 1 = y1 at e1 hK ⊢
          subst e1
          generalize x 2 = y2 at e2 hK ⊢
          subst e2
          generalize x 3 = y3 at e3 hK ⊢
          subst e3
          generalize x 4 = y4 at e4 hK ⊢
          subst e4
          generalize x 5 = y5 at e5 hK ⊢
          subst e5
          generalize x 6 = y6 at e6 hK ⊢
          subst e6
          generalize x 7 = y7 at e7 hK ⊢
          subst e7
          generalize x 8 = y8 at e8 hK ⊢
          subst e8
          generalize x 9 = y9 at e9 hK ⊢
          subst e9
          generalize x 10 = y10 at e10 hK ⊢
          subst e10
          generalize x 11 = y11 at e11 hK ⊢
          subst e11
          generalize x 12 = y12 at e12 hK ⊢
          subst e12
          generalize x 13 = y13 at e13 hK ⊢
          subst e13
          generalize x 14 = y14 at e14 hK ⊢
          subst e14
          exact wpOp_of rfl rfl (wp_val_of (some 6) rfl (.bool true) (by kernel_rfl) (hK _ _ rfl (Nx.refl _)))
      · intro x tm wr htm hx hv
        simp only [fillA, List.setIfInBounds_toArray, List.set_cons_zero, List.set_cons_succ] at htm
        subst htm
        have e17 : x 17 = .bool true := hv 17 (by decide)
        rw [e17]
        simp only [List.drop_succ_cons, List.drop_nil, List.drop_zero]
        refine wpList_nil ?_
        have NZ := Lib.hid (N1.out.trans hx)
        clear hx hv
        go_wp2_with fail
        go_ret
        exact ⟨rfl, NZ.out⟩
end Go.Proofs.YtpkopigiijiiiaaDoor
