/- THE LAW BlockBack. -/
import Derived.Test.YtejeekbpeinioaaGreatDoorBkW
import Derived.Test.YtejeekbpeinioaaGreatDoorBkS
import Derived.Test.YtejeekbpeinioaaGreatDoorBk9
import Derived.Test.YtejeekbpeinioaaGreatDoorBkG
import Derived.Test.YtejeekbpeinioaaGreatDoorRegSq
namespace Go.Proofs.YtejeekbpeinioaaGreatDoor
open Go Go.RowKit
set_option linter.unusedVariables false
set_option linter.unusedSimpArgs false
set_option linter.unusedVariables false
set_option linter.unusedSimpArgs false

set_option maxRecDepth 100000 in
set_option maxHeartbeats 16000000 in
theorem blockBack_law {w : World} (tv : Value) (B : Blk) (h : BlAt w tv B) (va : Value) (l : List UInt8) (hva : Rd w va l) (hr : l.length ≤ 140737488351232) (hE : EIs w) (hK : KIs w) :
    Calls Tryz.prog 5 #[.agg (blc B tv), va] w fun e w' => e = .returned (.bool true) ∧ Nx w w' := by
  have HGR := Lib.hid (fun W x => bgreat_any tv B W x)
  have H1 := Lib.hid (fun W x g => bput_any tv B W x g)
  have H5 : Hid (∀ W, BlAt W tv B → KIs W → EIs W → Calls Tryz.prog 13 #[.agg (blc B tv)] W fun e w' => ∃ tv', e = .returned (.tuple #[.agg (blc (slT B) tv'), .int .i64 (roE B.txs)]) ∧ BlAt w' tv' (slT B) ∧ Nx W w') := Lib.hid (fun W x k g => (bseal_any tv B W x k g).mono fun e w' ⟨tv', q1, q2, q3⟩ => ⟨tv', q1, ⟨q2.1, q2.2.rd⟩, q3⟩)
  have H7 := Lib.hid (fun w h g => bget_any va l 0 w h (by omega) g)
  have HOKB := Lib.hid h.ok
  have HRD : Hid (blM B = true → ∀ W v, Rd W v (blB B) → EIs W → Calls Tryz.prog 22 #[v] W fun e w' => ∃ tv, e = .returned (.tuple #[.agg (blc B tv), .int .i64 0]) ∧ BlAt w' tv B ∧ Nx W w') := Lib.hid (fun hm W v hv he => by
    have h1 := bl_back B [] [] hm HOKB.out
    simp only [List.nil_append, List.append_nil, List.length_nil, Int.natCast_zero, Int.zero_add] at h1
    have h2 : brT (blB B) = (B, 0) := by unfold brT; rw [h1]; simp
    have := bread_any v (blB B) W hv (by have := (blM_parts hm).2; omega) he
    rw [h2] at this
    exact this)
  have HTA : Hid (((bgT l 0).2.2 != 0) = true ∨ ((bgT l 0).2.2 = 0 ∧ ∃ k : Nat, (bgT l 0).2.1 = (k : Int) ∧ k ≤ l.length ∧ ∀ v9 W, BlAt W v9 (bgT l 0).1 → EIs W → Calls Tryz.prog 9 #[.agg (blc (bgT l 0).1 v9)] W fun e w' => ∃ r, e = .returned (.tuple #[r, .int .i64 0]) ∧ Own W.heap.size w' r (l.take k) ∧ Nx W w')) := Lib.hid (by
    by_cases hz : (bgT l 0).2.2 = 0
    · obtain ⟨hm, i, k, hi, hp, hk, -, hB⟩ := bl_got hz
      obtain rfl : i = 0 := by omega
      refine .inr ⟨hz, k, by simpa using hp, by omega, fun v9 W x g => ?_⟩
      have := bput_any v9 (bgT l 0).1 W x g
      rw [(bp_yes hm).1, (bp_yes hm).2, hB, List.drop_zero] at this
      exact this
    · exact .inl (by simpa using hz))
  have HRO : Hid ((roE B.txs = 0 ∧ slT B = { B with r := roH B.txs } ∧ ∀ tv W, BlAt W tv (slT B) → KIs W → EIs W → Calls Tryz.prog 18 #[.agg (blc (slT B) tv)] W fun e w' => e = .returned (.bool true) ∧ Nx W w') ∨ ((roE B.txs : Int) == 0) = false) := Lib.hid (by
    rcases ro_cases B.txs with ⟨a, b⟩ | ⟨a, b⟩
    · refine .inl ⟨b, sl_yes a, fun tv W x k g => ?_⟩
      have := sealed_any tv (slT B) W x k g
      rwa [show seB (slT B) = true by rw [sl_yes a]; unfold seB; simp [a]] at this
    · exact .inr (by rw [beq_eq_false_iff_ne]; omega))
  have HSM := Lib.hid (fun u v W h1 h2 => rbsame_yes u v B W h1 h2)
  have HSP := Lib.hid (fun u v W h1 h2 => bsame_yes u v B W h1 h2)
  have HSS := Lib.hid (fun u v W h1 h2 => rbsame_yes u v (slT B) W h1 h2)
  have HSH : Hid ((slT B).p.length = 32) := Lib.hid (by unfold slT; split; exact h.h.p; exact Z32_lengthh)
  have HW := Lib.hid (fun w k g => bworks_any w k g)
  have HNO := Lib.hid (fun hm => bp_no (B := B) hm)
  have HYES := Lib.hid (fun hm => bp_yes (B := B) hm)
  have LH := Lib.hid (roH_length B.txs)
  have HT := Lib.hid h
  have HB := Lib.hid hva
  have HG := Lib.hid hE
  have HKK := Lib.hid hK
  obtain ⟨hz, hzs⟩ := zero_of_info info_blz
  have bs := Lib.hid (fun (B : Blk) tv h => blocksz B tv h)
  have be := Lib.hid (fun (B : Blk) tv h => blcsame blZ B (.slice none 0 0) tv HOkZ h)
  have bo := Lib.hid (fun (B : Blk) A n c => blc_one B (.slice A n c) rfl)
  generalize blc blZ = BZ at *
  obtain ⟨A0, c0, htv, -⟩ := h.x.elem
  subst htv
  obtain ⟨A3, c3, rfl, hc3, -⟩ := hva
  have HC3 := Lib.hid hc3
  have x0 := Lib.hid (bs.out B (.slice A0 B.txs.length c0) h.h)
  have y0 := Lib.hid (be.out B (.slice A0 B.txs.length c0) h.h)
  have z0 := Lib.hid (bo.out B A0 B.txs.length c0)
  have KT := Lib.hid (Row.new w (blc B (.slice A0 B.txs.length c0)) 29 _ rfl)
  have NN := Lib.hid ((Nx.refl w).alloc (.cells (blc B (.slice A0 B.txs.length c0)) 29))
  have x1 := Lib.hid (bs.out { B with r := roH B.txs } (.slice A0 B.txs.length c0) (h.h.root LH.out))
  have iR := Lib.hid (hashsz (roH B.txs) LH.out)
  have hold : Hid (32 + (hcel (roH B.txs)).size ≤ (blc B (.slice A0 B.txs.length c0)).size) := Lib.hid (by rw [hcel_size, LH.out, blc_size B _ h.h]; decide)
  have HRT3 : Hid ((List.take 32 (blc B (.slice A0 B.txs.length c0)).toList ++ (hcel (roH B.txs)).toList ++ List.drop (32 + (hcel (roH B.txs)).size) (blc B (.slice A0 B.txs.length c0)).toList).toArray = blc { B with r := roH B.txs } (.slice A0 B.txs.length c0)) := Lib.hid (by rw [List.append_assoc]; exact blc_root B _ h.h (roH B.txs) LH.out)
  clear h hE hK hc3 hr
  generalize bgT l 0 = TT at *
  obtain ⟨Y, p, E⟩ := TT
  dsimp only at *
  generalize slT B = SB at *
  generalize roE B.txs = RE at *
  generalize roH B.txs = RH at *
  generalize hCC1 : blc { B with r := RH } (.slice A0 B.txs.length c0) = C1 at *
  have HCC1 := Lib.hid hCC1.symm
  clear hCC1
  generalize hCC0 : blc B (.slice A0 B.txs.length c0) = C0 at *
  have HCC0 := Lib.hid hCC0
  clear hCC0
  have KP := KT.out
  go_enter Tryz.func5, Tryz.ntmps5
  go_wp2_with (refine wpList_load_row rfl 29 (.tmp 2) rfl w.heap.size rfl 29 C0 (0, 0) _ KP Tryz.underlying29 rfl x0.out ?_)
  refine (HGR.out _ (HT.out.nx NN.out)).mono ?_
  rintro e u0 ⟨b, rfl, n0⟩
  replace KT := Lib.hid (KT.out.nx n0)
  replace NN := Lib.hid (NN.out.trans n0)
  clear n0 HGR KP
  cases b
  case true =>
    go_wp2_with fail
    refine (HW.out _ (HKK.out.nx NN.out) (HG.out.nx NN.out)).mono ?_
    rintro e wz ⟨rfl, nz⟩
    have NZ := Lib.hid (NN.out.trans nz)
    clear nz NN
    go_wp2_with fail
    go_ret
    exact ⟨rfl, NZ.out⟩
  case false =>
    have KP := KT.out
    go_wp2_with (refine wpList_load_row rfl 29 (.tmp 2) rfl w.heap.size rfl 29 C0 (0, 0) _ KP Tryz.underlying29 rfl x0.out ?_)
    refine (H1.out _ (HT.out.nx NN.out) (HG.out.nx NN.out)).mono ?_
    rintro e u1 ⟨v1, rfl, o1, n1⟩
    replace KT := Lib.hid (KT.out.nx n1)
    replace NN := Lib.hid (NN.out.trans n1)
    clear n1 KP H1
    cases hm : blM B
    · obtain ⟨e1, e2⟩ := HNO.out hm
      rw [e2] at o1
      rw [e1]
      obtain ⟨A5, c5, rfl, -⟩ := o1.rd
      clear hm e1 e2 o1 HNO HYES HRD
      have KP := KT.out
      go_wp2_with (refine wpList_load_row rfl 29 (.tmp 2) rfl w.heap.size rfl 29 C0 (0, 0) _ KP Tryz.underlying29 rfl x0.out ?_)
      refine (H5.out _ (HT.out.nx NN.out) (HKK.out.nx NN.out) (HG.out.nx NN.out)).mono ?_
      rintro e w9 ⟨tv9, rfl, bb9, n9⟩
      have bl9 := bb9
      obtain ⟨A9, c9, rfl, -⟩ := bl9.x.elem
      have Z9 := Row.new w9 (BZ (.slice none 0 0)) 29 _ rfl
      have M9 := ((Nx.refl w9).alloc (.cells (BZ (.slice none 0 0)) 29)).setRow (g := w9.heap.size) (blc SB (.slice A9 SB.txs.length c9)) (Nat.le_refl _)
      have R9 := Lib.hid (Z9.setRow (blc SB (.slice A9 SB.txs.length c9)))
      have T9 := Lib.hid (bl9.nx M9)
      have x9 := Lib.hid (bs.out SB (.slice A9 SB.txs.length c9) bl9.h)
      have y9 := Lib.hid (be.out SB (.slice A9 SB.txs.length c9) bl9.h)
      have z9 := Lib.hid (bo.out SB A9 SB.txs.length c9)
      replace KT := Lib.hid (KT.out.nx (n9.trans M9))
      replace NN := Lib.hid (NN.out.trans (n9.trans M9))
      clear bl9 bb9 n9 M9
      go_upto_region 9 with (refine wpList_store_row rfl 29 (.tmp 9) (.tmp 49) rfl w9.heap.size (blc SB (.slice A9 SB.txs.length c9)) rfl rfl 29 (BZ (.slice none 0 0)) Z9 x9.out y9.out z9.out ?_)
      generalize hg9 : w9.heap.size = g9 at *
      clear Z9 hg9
      generalize (w9.alloc (.cells (BZ (.slice none 0 0)) 29)).setRow g9 (blc SB (.slice A9 SB.txs.length c9)) = V9 at *
      clear KP
      rcases HRO.out with ⟨he, hs, hse⟩ | he
      · subst he
        have HSB := Lib.hid hs
        have HSE := Lib.hid hse
        clear hs hse HRO
        have KP := KT.out
        have Z11 := Row.new V9 (BZ (.slice none 0 0)) 29 _ rfl
        have M11 := ((Nx.refl V9).alloc (.cells (BZ (.slice none 0 0)) 29)).setRow (g := V9.heap.size) C0 (Nat.le_refl _)
        have R11 := Lib.hid (Z11.setRow C0)
        have HGL : Hid (w.heap.size ≤ V9.heap.size) := Lib.hid NN.out.size
        have HG9 : Hid (g9 < V9.heap.size) := Lib.hid R9.out.lt
        go_upto_region 11 with (first | (refine wpList_load_row rfl 29 (.tmp 2) rfl w.heap.size rfl 29 C0 (0, 0) _ KP Tryz.underlying29 rfl x0.out ?_) | (refine wpList_store_row rfl 29 (.tmp 11) (.tmp 53) rfl V9.heap.size C0 rfl rfl 29 (BZ (.slice none 0 0)) Z11 x0.out y0.out z0.out ?_))
        have HVG : Hid (V9.heap.size ≤ V9.heap.size) := Lib.hid (Nat.le_refl _)
        generalize hV11 : (V9.alloc (.cells (BZ (.slice none 0 0)) 29)).setRow V9.heap.size C0 = V11 at *
        clear hV11 Z11 KP
        have HLR : Hid (∀ j v, (hcel RH)[j]? = some v → V11.cell? ⟨g9, 32 + j, none⟩ = some v) := Lib.hid (fun j v hv => (R9.out.nx M11).cell (by
          have := blc_h SB (.slice A9 SB.txs.length c9) (32 + j) v (hcel_at_r (r := SB.r) (t := SB.t) (b := SB.b) (n := SB.n) HSH.out j v (by rw [show SB.r = RH by rw [HSB.out]]; exact hv))
          exact this))
        have R12 := Lib.hid (R11.out.setRow C1)
        have MM := M11.setRow (g := V9.heap.size) C1 (Nat.le_refl _)
        have RR11 := R11.out
        go_upto_region 12 with (first | (refine wpList_load_at rfl 23 (.tmp 55) rfl g9 32 rfl (hcel RH) _ HLR.out Tryz.underlying23 rfl iR.out ?_) | (refine wpList_store_part rfl 23 (.tmp 58) (.tmp 56) rfl V9.heap.size 32 (hcel RH) rfl rfl 29 C0 RR11 iR.out hold.out (hcel_one _) ?_))
        rw [HRT3.out]
        replace R9 := Lib.hid (R9.out.nx MM)
        replace T9 := Lib.hid (T9.out.nx MM)
        replace NN := Lib.hid (NN.out.trans MM)
        have T1 : Hid (BlAt (V11.setRow V9.heap.size C1) (.slice A0 B.txs.length c0) SB) := Lib.hid (by rw [HSB.out]; exact blAt_root (HT.out.nx NN.out) LH.out)
        have HC1 : Hid (C1 = blc SB (.slice A0 B.txs.length c0)) := Lib.hid (by rw [HSB.out]; exact HCC1.out)
        clear MM M11 RR11 R11 HLR KT HVG
        generalize V11.setRow V9.heap.size C1 = V12 at *
        generalize V9.heap.size = g11 at *
        refine wp_region_sq 9 [some 59, some 60, some 61, some 62, some 63, some 64, some 65, some 66, some 67]
          [.eq (.agg (blc SB (.slice A9 SB.txs.length c9))), .eq (.bool true), .eq (.bool false), .eq (.bool false), .eq (.agg (blc SB (.slice A9 SB.txs.length c9))), .eq (.agg C1), .eq (.bool true), .eq (.bool false), .eq (.bool false)]
          (by kernel_rfl) (by decide) (by decide) ?_ ?_
        · intro x tm wr htm hx i hi hd K hK
          simp only [fillA, List.setIfInBounds_toArray, List.set_cons_zero, List.set_cons_succ] at htm
          subst htm
          have hcs : i = 0 ∨ i = 1 ∨ i = 2 ∨ i = 3 ∨ i = 4 ∨ i = 5 ∨ i = 6 ∨ i = 7 ∨ i = 8 := by omega
          clear hi
          rcases hcs with rfl | rfl | rfl | rfl | rfl | rfl | rfl | rfl | rfl
          · exact sq_of rfl rfl (wp_load_row_of (some 59) rfl 29 (.tmp 9) rfl (g9) rfl 29 ((blc SB (.slice A9 SB.txs.length c9))) _ (R9.out.nx hx) Tryz.underlying29 rfl x9.out (hK _ _ rfl (Nx.refl _)))
          · have e0 : x 0 = .agg (blc SB (.slice A9 SB.txs.length c9)) := hd 0 (by decide)
            generalize x 0 = y0 at e0 hK ⊢
            subst e0
            refine sq_of rfl rfl (wp_call_of (some 60) rfl 18 #[(.agg (blc SB (.slice A9 SB.txs.length c9)))] (by kernel_rfl) (.bool true) ?_ (fun w' h => hK _ w' rfl h))
            exact HSE.out _ wr (T9.out.nx hx) (HKK.out.nx (NN.out.trans hx)) (HG.out.nx (NN.out.trans hx))
          · have e1 : x 1 = .bool true := hd 1 (by decide)
            generalize x 1 = y1 at e1 hK ⊢
            subst e1
            exact sq_of rfl rfl (wp_val_of (some 61) rfl (.bool false) (by kernel_rfl) (hK _ _ rfl (Nx.refl _)))
          · have e2 : x 2 = .bool false := hd 2 (by decide)
            generalize x 2 = y2 at e2 hK ⊢
            subst e2
            exact sq_of rfl rfl (wp_val_of (some 62) rfl (.bool false) (by kernel_rfl) (hK _ _ rfl (Nx.refl _)))
          · have e3 : x 3 = .bool false := hd 3 (by decide)
            generalize x 3 = y3 at e3 hK ⊢
            subst e3
            exact sq_g rfl (by rfl) (wp_load_row_of (some 63) rfl 29 (.tmp 9) rfl (g9) rfl 29 ((blc SB (.slice A9 SB.txs.length c9))) _ (R9.out.nx hx) Tryz.underlying29 rfl x9.out (hK _ _ rfl (Nx.refl _)))
          · have e3 : x 3 = .bool false := hd 3 (by decide)
            generalize x 3 = y3 at e3 hK ⊢
            subst e3
            exact sq_g rfl (by rfl) (wp_load_row_of (some 64) rfl 29 (.tmp 11) rfl (g11) rfl 29 (C1) _ (R12.out.nx hx) Tryz.underlying29 rfl x1.out (hK _ _ rfl (Nx.refl _)))
          · have e4 : x 4 = .agg (blc SB (.slice A9 SB.txs.length c9)) := hd 4 (by decide)
            have e5 : x 5 = .agg C1 := hd 5 (by decide)
            have e3 : x 3 = .bool false := hd 3 (by decide)
            generalize x 4 = y4 at e4 hK ⊢
            subst e4
            generalize x 5 = y5 at e5 hK ⊢
            subst e5
            generalize x 3 = y3 at e3 hK ⊢
            subst e3
            refine sq_g rfl (by rfl) (wp_call_of (some 65) rfl 17 #[(.agg (blc SB (.slice A9 SB.txs.length c9))), (.agg C1)] (by kernel_rfl) (.bool true) ?_ (fun w' h => hK _ w' rfl h))
            exact by rw [HC1.out]; exact HSS.out _ _ wr (T9.out.nx hx) (T1.out.nx hx)
          · have e6 : x 6 = .bool true := hd 6 (by decide)
            have e3 : x 3 = .bool false := hd 3 (by decide)
            generalize x 6 = y6 at e6 hK ⊢
            subst e6
            generalize x 3 = y3 at e3 hK ⊢
            subst e3
            exact sq_g rfl (by rfl) (wp_val_of (some 66) rfl (.bool false) (by kernel_rfl) (hK _ _ rfl (Nx.refl _)))
          · have e3 : x 3 = .bool false := hd 3 (by decide)
            have e7 : x 7 = .bool false := hd 7 (by decide)
            generalize x 3 = y3 at e3 hK ⊢
            subst e3
            generalize x 7 = y7 at e7 hK ⊢
            subst e7
            exact sq_of rfl rfl (wp_val_of (some 67) rfl (.bool false) (by kernel_rfl) (hK _ _ rfl (Nx.refl _)))
        · intro x tm wr htm hx hv
          simp only [fillA, List.setIfInBounds_toArray, List.set_cons_zero, List.set_cons_succ] at htm
          subst htm
          have e8 : x 8 = .bool false := hv 8 (by decide)
          rw [e8]
          replace NN := Lib.hid (NN.out.trans hx)
          clear hx R9 R12 T9 T1 HC1
          go_wp2_with fail
          refine (H7.out _ (HB.out.nx NN.out) (HG.out.nx NN.out)).mono ?_
          rintro e w12 ⟨tv12, rfl, bb12, n12⟩
          have bl12 := bb12 w12 (Above.of_nx (Nx.refl _))
          obtain ⟨A12, c12, rfl, -⟩ := bl12.x.elem
          have Z12 := Row.new w12 (BZ (.slice none 0 0)) 29 _ rfl
          have M12 := ((Nx.refl w12).alloc (.cells (BZ (.slice none 0 0)) 29)).setRow (g := w12.heap.size) (blc Y (.slice A12 Y.txs.length c12)) (Nat.le_refl _)
          have R12 := Lib.hid (Z12.setRow (blc Y (.slice A12 Y.txs.length c12)))
          have T12 := Lib.hid (bl12.nx M12)
          have x12 := Lib.hid (bs.out Y (.slice A12 Y.txs.length c12) bl12.h)
          have y12 := Lib.hid (be.out Y (.slice A12 Y.txs.length c12) bl12.h)
          have z12 := Lib.hid (bo.out Y A12 Y.txs.length c12)
          replace NN := Lib.hid (NN.out.trans (n12.trans M12))
          clear bl12 bb12 n12 M12
          go_upto_region 15 with (refine wpList_store_row rfl 29 (.tmp 12) (.tmp 71) rfl w12.heap.size (blc Y (.slice A12 Y.txs.length c12)) rfl rfl 29 (BZ (.slice none 0 0)) Z12 x12.out y12.out z12.out ?_)
          generalize hg12 : w12.heap.size = g12 at *
          clear Z12 hg12
          generalize (w12.alloc (.cells (BZ (.slice none 0 0)) 29)).setRow g12 (blc Y (.slice A12 Y.txs.length c12)) = V12 at *
          rcases HTA.out with hne | ⟨he, k, hp, hk, HPU⟩
          · have HNE := Lib.hid hne
            clear hne HTA R12 T12
            have hne := HNE.out
            go_wp2_with fail
            refine (HW.out _ (HKK.out.nx NN.out) (HG.out.nx NN.out)).mono ?_
            rintro e wz ⟨rfl, nz⟩
            have NZ := Lib.hid (NN.out.trans nz)
            clear nz NN
            go_wp2_with fail
            go_ret
            exact ⟨rfl, NZ.out⟩
          · subst he
            subst hp
            have hs := slice_to (P := Tryz.prog) 32 5 Tryz.underlying32 Tryz.sizeOf5 A3 l.length c3 k k rfl (by have := HC3.out; omega)
            have RT : Hid (∀ w, Rd w (.slice A3 l.length c3) l → Rd w (.slice A3 k c3) (l.take k)) := Lib.hid fun w hr => by
              obtain ⟨A', c', e', q1, q2, q3⟩ := hr
              injection e' with e1 e2 e3
              subst e1 e3
              exact Rd.pre q3 hk (by have := HC3.out; omega) q2
            have k0 : (0 : Int) ≤ (k : Int) := by omega
            have k1 : (k : Int) ≤ (l.length : Int) := by omega
            have HPV := Lib.hid HPU
            clear HTA HPU hk
            go_wp2_with (refine wpList_load_row rfl 29 (.tmp 12) rfl g12 rfl 29 (blc Y (.slice A12 Y.txs.length c12)) (0, 0) _ R12.out Tryz.underlying29 rfl x12.out ?_)
            refine (HPV.out _ _ T12.out (HG.out.nx NN.out)).mono ?_
            rintro e y3 ⟨vp, rfl, o3, n3⟩
            have ON := Lib.hid o3.rd
            replace NN := Lib.hid (NN.out.trans n3)
            have RN3 := Lib.hid (RT.out _ (HB.out.nx NN.out))
            clear n3 o3 R12 T12
            go_wp2_with fail
            refine (same_yes _ _ (l.take k) _ ON.out RN3.out).mono ?_
            rintro e y4 ⟨rfl, n4⟩
            replace NN := Lib.hid (NN.out.trans n4)
            clear n4
            go_wp2_with fail
            refine (HW.out _ (HKK.out.nx NN.out) (HG.out.nx NN.out)).mono ?_
            rintro e wz ⟨rfl, nz⟩
            have NZ := Lib.hid (NN.out.trans nz)
            clear nz NN
            go_wp2_with fail
            go_ret
            exact ⟨rfl, NZ.out⟩
      · have HRE := Lib.hid he
        clear he HRO KT R9 T9
        have he := HRE.out
        go_wp2_with fail
        refine (H7.out _ (HB.out.nx NN.out) (HG.out.nx NN.out)).mono ?_
        rintro e w12 ⟨tv12, rfl, bb12, n12⟩
        have bl12 := bb12 w12 (Above.of_nx (Nx.refl _))
        obtain ⟨A12, c12, rfl, -⟩ := bl12.x.elem
        have Z12 := Row.new w12 (BZ (.slice none 0 0)) 29 _ rfl
        have M12 := ((Nx.refl w12).alloc (.cells (BZ (.slice none 0 0)) 29)).setRow (g := w12.heap.size) (blc Y (.slice A12 Y.txs.length c12)) (Nat.le_refl _)
        have R12 := Lib.hid (Z12.setRow (blc Y (.slice A12 Y.txs.length c12)))
        have T12 := Lib.hid (bl12.nx M12)
        have x12 := Lib.hid (bs.out Y (.slice A12 Y.txs.length c12) bl12.h)
        have y12 := Lib.hid (be.out Y (.slice A12 Y.txs.length c12) bl12.h)
        have z12 := Lib.hid (bo.out Y A12 Y.txs.length c12)
        replace NN := Lib.hid (NN.out.trans (n12.trans M12))
        clear bl12 bb12 n12 M12
        go_upto_region 15 with (refine wpList_store_row rfl 29 (.tmp 12) (.tmp 71) rfl w12.heap.size (blc Y (.slice A12 Y.txs.length c12)) rfl rfl 29 (BZ (.slice none 0 0)) Z12 x12.out y12.out z12.out ?_)
        generalize hg12 : w12.heap.size = g12 at *
        clear Z12 hg12
        generalize (w12.alloc (.cells (BZ (.slice none 0 0)) 29)).setRow g12 (blc Y (.slice A12 Y.txs.length c12)) = V12 at *
        rcases HTA.out with hne | ⟨he, k, hp, hk, HPU⟩
        · have HNE := Lib.hid hne
          clear hne HTA R12 T12
          have hne := HNE.out
          go_wp2_with fail
          refine (HW.out _ (HKK.out.nx NN.out) (HG.out.nx NN.out)).mono ?_
          rintro e wz ⟨rfl, nz⟩
          have NZ := Lib.hid (NN.out.trans nz)
          clear nz NN
          go_wp2_with fail
          go_ret
          exact ⟨rfl, NZ.out⟩
        · subst he
          subst hp
          have hs := slice_to (P := Tryz.prog) 32 5 Tryz.underlying32 Tryz.sizeOf5 A3 l.length c3 k k rfl (by have := HC3.out; omega)
          have RT : Hid (∀ w, Rd w (.slice A3 l.length c3) l → Rd w (.slice A3 k c3) (l.take k)) := Lib.hid fun w hr => by
            obtain ⟨A', c', e', q1, q2, q3⟩ := hr
            injection e' with e1 e2 e3
            subst e1 e3
            exact Rd.pre q3 hk (by have := HC3.out; omega) q2
          have k0 : (0 : Int) ≤ (k : Int) := by omega
          have k1 : (k : Int) ≤ (l.length : Int) := by omega
          have HPV := Lib.hid HPU
          clear HTA HPU hk
          go_wp2_with (refine wpList_load_row rfl 29 (.tmp 12) rfl g12 rfl 29 (blc Y (.slice A12 Y.txs.length c12)) (0, 0) _ R12.out Tryz.underlying29 rfl x12.out ?_)
          refine (HPV.out _ _ T12.out (HG.out.nx NN.out)).mono ?_
          rintro e y3 ⟨vp, rfl, o3, n3⟩
          have ON := Lib.hid o3.rd
          replace NN := Lib.hid (NN.out.trans n3)
          have RN3 := Lib.hid (RT.out _ (HB.out.nx NN.out))
          clear n3 o3 R12 T12
          go_wp2_with fail
          refine (same_yes _ _ (l.take k) _ ON.out RN3.out).mono ?_
          rintro e y4 ⟨rfl, n4⟩
          replace NN := Lib.hid (NN.out.trans n4)
          clear n4
          go_wp2_with fail
          refine (HW.out _ (HKK.out.nx NN.out) (HG.out.nx NN.out)).mono ?_
          rintro e wz ⟨rfl, nz⟩
          have NZ := Lib.hid (NN.out.trans nz)
          clear nz NN
          go_wp2_with fail
          go_ret
          exact ⟨rfl, NZ.out⟩
    · obtain ⟨e1, e2⟩ := HYES.out hm
      rw [e2] at o1
      rw [e1]
      have HR9 := Lib.hid (HRD.out hm)
      have HO := Lib.hid o1.rd
      obtain ⟨A5, c5, rfl, -⟩ := o1.rd
      clear hm e1 e2 o1 HNO HYES HRD
      generalize blB B = L at *
      go_wp2_with fail
      refine (HR9.out _ _ HO.out (HG.out.nx NN.out)).mono ?_
      rintro e w7 ⟨tv7, rfl, bb7, n7⟩
      have bl7 := bb7
      obtain ⟨A7, c7, rfl, -⟩ := bl7.x.elem
      have Z7 := Row.new w7 (BZ (.slice none 0 0)) 29 _ rfl
      have M7 := ((Nx.refl w7).alloc (.cells (BZ (.slice none 0 0)) 29)).setRow (g := w7.heap.size) (blc B (.slice A7 B.txs.length c7)) (Nat.le_refl _)
      have R7 := Lib.hid (Z7.setRow (blc B (.slice A7 B.txs.length c7)))
      have T7 := Lib.hid (bl7.nx M7)
      have x7 := Lib.hid (bs.out B (.slice A7 B.txs.length c7) bl7.h)
      have y7 := Lib.hid (be.out B (.slice A7 B.txs.length c7) bl7.h)
      have z7 := Lib.hid (bo.out B A7 B.txs.length c7)
      replace KT := Lib.hid (KT.out.nx (n7.trans M7))
      replace NN := Lib.hid (NN.out.trans (n7.trans M7))
      clear bl7 bb7 n7 M7
      go_upto_region 6 with (refine wpList_store_row rfl 29 (.tmp 7) (.tmp 30) rfl w7.heap.size (blc B (.slice A7 B.txs.length c7)) rfl rfl 29 (BZ (.slice none 0 0)) Z7 x7.out y7.out z7.out ?_)
      generalize hg7 : w7.heap.size = g7 at *
      clear Z7 hg7
      generalize (w7.alloc (.cells (BZ (.slice none 0 0)) 29)).setRow g7 (blc B (.slice A7 B.txs.length c7)) = V7 at *
      refine wp_region_sq 14 [some 32, some 33, some 34, some 35, some 36, some 37, some 38, some 39, some 40, some 41, some 42, some 43, some 44, some 45]
        [.eq (.int .i64 0), .eq (.bool false), .eq (.bool false), .eq (.agg C0), .eq (.agg (blc B (.slice A7 B.txs.length c7))), .eq (.bool true), .eq (.bool false), .eq (.bool false), .eq (.bool false), .eq (.agg C0), .eq (.agg (blc B (.slice A7 B.txs.length c7))), .eq (.bool true), .eq (.bool false), .eq (.bool false)]
        (by kernel_rfl) (by decide) (by decide) ?_ ?_
      · intro x tm wr htm hx i hi hd K hK
        simp only [fillA, List.setIfInBounds_toArray, List.set_cons_zero, List.set_cons_succ] at htm
        subst htm
        have hcs : i = 0 ∨ i = 1 ∨ i = 2 ∨ i = 3 ∨ i = 4 ∨ i = 5 ∨ i = 6 ∨ i = 7 ∨ i = 8 ∨ i = 9 ∨ i = 10 ∨ i = 11 ∨ i = 12 ∨ i = 13 := by omega
        clear hi
        rcases hcs with rfl | rfl | rfl | rfl | rfl | rfl | rfl | rfl | rfl | rfl | rfl | rfl | rfl | rfl
        · exact sq_of rfl rfl (wp_val_of (some 32) rfl (.int .i64 0) (by kernel_rfl) (hK _ _ rfl (Nx.refl _)))
        · have e0 : x 0 = .int .i64 0 := hd 0 (by decide)
          generalize x 0 = y0 at e0 hK ⊢
          subst e0
          exact sq_of rfl rfl (wp_val_of (some 33) rfl (.bool false) (by kernel_rfl) (hK _ _ rfl (Nx.refl _)))
        · have e1 : x 1 = .bool false := hd 1 (by decide)
          generalize x 1 = y1 at e1 hK ⊢
          subst e1
          exact sq_of rfl rfl (wp_val_of (some 34) rfl (.bool false) (by kernel_rfl) (hK _ _ rfl (Nx.refl _)))
        · have e2 : x 2 = .bool false := hd 2 (by decide)
          generalize x 2 = y2 at e2 hK ⊢
          subst e2
          exact sq_g rfl (by rfl) (wp_load_row_of (some 35) rfl 29 (.tmp 2) rfl (w.heap.size) rfl 29 (C0) _ (KT.out.nx hx) Tryz.underlying29 rfl x0.out (hK _ _ rfl (Nx.refl _)))
        · have e2 : x 2 = .bool false := hd 2 (by decide)
          generalize x 2 = y2 at e2 hK ⊢
          subst e2
          exact sq_g rfl (by rfl) (wp_load_row_of (some 36) rfl 29 (.tmp 7) rfl (g7) rfl 29 ((blc B (.slice A7 B.txs.length c7))) _ (R7.out.nx hx) Tryz.underlying29 rfl x7.out (hK _ _ rfl (Nx.refl _)))
        · have e3 : x 3 = .agg C0 := hd 3 (by decide)
          have e4 : x 4 = .agg (blc B (.slice A7 B.txs.length c7)) := hd 4 (by decide)
          have e2 : x 2 = .bool false := hd 2 (by decide)
          generalize x 3 = y3 at e3 hK ⊢
          subst e3
          generalize x 4 = y4 at e4 hK ⊢
          subst e4
          generalize x 2 = y2 at e2 hK ⊢
          subst e2
          refine sq_g rfl (by rfl) (wp_call_of (some 37) rfl 17 #[(.agg C0), (.agg (blc B (.slice A7 B.txs.length c7)))] (by kernel_rfl) (.bool true) ?_ (fun w' h => hK _ w' rfl h))
          exact by rw [← HCC0.out]; exact HSM.out _ _ wr (HT.out.nx (NN.out.trans hx)) (T7.out.nx hx)
        · have e5 : x 5 = .bool true := hd 5 (by decide)
          have e2 : x 2 = .bool false := hd 2 (by decide)
          generalize x 5 = y5 at e5 hK ⊢
          subst e5
          generalize x 2 = y2 at e2 hK ⊢
          subst e2
          exact sq_g rfl (by rfl) (wp_val_of (some 38) rfl (.bool false) (by kernel_rfl) (hK _ _ rfl (Nx.refl _)))
        · have e2 : x 2 = .bool false := hd 2 (by decide)
          have e6 : x 6 = .bool false := hd 6 (by decide)
          generalize x 2 = y2 at e2 hK ⊢
          subst e2
          generalize x 6 = y6 at e6 hK ⊢
          subst e6
          exact sq_of rfl rfl (wp_val_of (some 39) rfl (.bool false) (by kernel_rfl) (hK _ _ rfl (Nx.refl _)))
        · have e7 : x 7 = .bool false := hd 7 (by decide)
          generalize x 7 = y7 at e7 hK ⊢
          subst e7
          exact sq_of rfl rfl (wp_val_of (some 40) rfl (.bool false) (by kernel_rfl) (hK _ _ rfl (Nx.refl _)))
        · have e8 : x 8 = .bool false := hd 8 (by decide)
          generalize x 8 = y8 at e8 hK ⊢
          subst e8
          exact sq_g rfl (by rfl) (wp_load_row_of (some 41) rfl 29 (.tmp 2) rfl (w.heap.size) rfl 29 (C0) _ (KT.out.nx hx) Tryz.underlying29 rfl x0.out (hK _ _ rfl (Nx.refl _)))
        · have e8 : x 8 = .bool false := hd 8 (by decide)
          generalize x 8 = y8 at e8 hK ⊢
          subst e8
          exact sq_g rfl (by rfl) (wp_load_row_of (some 42) rfl 29 (.tmp 7) rfl (g7) rfl 29 ((blc B (.slice A7 B.txs.length c7))) _ (R7.out.nx hx) Tryz.underlying29 rfl x7.out (hK _ _ rfl (Nx.refl _)))
        · have e9 : x 9 = .agg C0 := hd 9 (by decide)
          have e10 : x 10 = .agg (blc B (.slice A7 B.txs.length c7)) := hd 10 (by decide)
          have e8 : x 8 = .bool false := hd 8 (by decide)
          generalize x 9 = y9 at e9 hK ⊢
          subst e9
          generalize x 10 = y10 at e10 hK ⊢
          subst e10
          generalize x 8 = y8 at e8 hK ⊢
          subst e8
          refine sq_g rfl (by rfl) (wp_call_of (some 43) rfl 24 #[(.agg C0), (.agg (blc B (.slice A7 B.txs.length c7)))] (by kernel_rfl) (.bool true) ?_ (fun w' h => hK _ w' rfl h))
          exact by rw [← HCC0.out]; exact HSP.out _ _ wr (HT.out.nx (NN.out.trans hx)) (T7.out.nx hx)
        · have e11 : x 11 = .bool true := hd 11 (by decide)
          have e8 : x 8 = .bool false := hd 8 (by decide)
          generalize x 11 = y11 at e11 hK ⊢
          subst e11
          generalize x 8 = y8 at e8 hK ⊢
          subst e8
          exact sq_g rfl (by rfl) (wp_val_of (some 44) rfl (.bool false) (by kernel_rfl) (hK _ _ rfl (Nx.refl _)))
        · have e8 : x 8 = .bool false := hd 8 (by decide)
          have e12 : x 12 = .bool false := hd 12 (by decide)
          generalize x 8 = y8 at e8 hK ⊢
          subst e8
          generalize x 12 = y12 at e12 hK ⊢
          subst e12
          exact sq_of rfl rfl (wp_val_of (some 45) rfl (.bool false) (by kernel_rfl) (hK _ _ rfl (Nx.refl _)))
      · intro x tm wr htm hx hv
        simp only [fillA, List.setIfInBounds_toArray, List.set_cons_zero, List.set_cons_succ] at htm
        subst htm
        have e13 : x 13 = .bool false := hv 13 (by decide)
        rw [e13]
        replace KT := Lib.hid (KT.out.nx hx)
        replace NN := Lib.hid (NN.out.trans hx)
        clear hx R7 T7
        have KP := KT.out
        go_wp2_with (refine wpList_load_row rfl 29 (.tmp 2) rfl w.heap.size rfl 29 C0 (0, 0) _ KP Tryz.underlying29 rfl x0.out ?_)
        refine (H5.out _ (HT.out.nx NN.out) (HKK.out.nx NN.out) (HG.out.nx NN.out)).mono ?_
        rintro e w9 ⟨tv9, rfl, bb9, n9⟩
        have bl9 := bb9
        obtain ⟨A9, c9, rfl, -⟩ := bl9.x.elem
        have Z9 := Row.new w9 (BZ (.slice none 0 0)) 29 _ rfl
        have M9 := ((Nx.refl w9).alloc (.cells (BZ (.slice none 0 0)) 29)).setRow (g := w9.heap.size) (blc SB (.slice A9 SB.txs.length c9)) (Nat.le_refl _)
        have R9 := Lib.hid (Z9.setRow (blc SB (.slice A9 SB.txs.length c9)))
        have T9 := Lib.hid (bl9.nx M9)
        have x9 := Lib.hid (bs.out SB (.slice A9 SB.txs.length c9) bl9.h)
        have y9 := Lib.hid (be.out SB (.slice A9 SB.txs.length c9) bl9.h)
        have z9 := Lib.hid (bo.out SB A9 SB.txs.length c9)
        replace KT := Lib.hid (KT.out.nx (n9.trans M9))
        replace NN := Lib.hid (NN.out.trans (n9.trans M9))
        clear bl9 bb9 n9 M9
        go_upto_region 9 with (refine wpList_store_row rfl 29 (.tmp 9) (.tmp 49) rfl w9.heap.size (blc SB (.slice A9 SB.txs.length c9)) rfl rfl 29 (BZ (.slice none 0 0)) Z9 x9.out y9.out z9.out ?_)
        generalize hg9 : w9.heap.size = g9 at *
        clear Z9 hg9
        generalize (w9.alloc (.cells (BZ (.slice none 0 0)) 29)).setRow g9 (blc SB (.slice A9 SB.txs.length c9)) = V9 at *
        clear KP
        rcases HRO.out with ⟨he, hs, hse⟩ | he
        · subst he
          have HSB := Lib.hid hs
          have HSE := Lib.hid hse
          clear hs hse HRO
          have KP := KT.out
          have Z11 := Row.new V9 (BZ (.slice none 0 0)) 29 _ rfl
          have M11 := ((Nx.refl V9).alloc (.cells (BZ (.slice none 0 0)) 29)).setRow (g := V9.heap.size) C0 (Nat.le_refl _)
          have R11 := Lib.hid (Z11.setRow C0)
          have HGL : Hid (w.heap.size ≤ V9.heap.size) := Lib.hid NN.out.size
          have HG9 : Hid (g9 < V9.heap.size) := Lib.hid R9.out.lt
          go_upto_region 11 with (first | (refine wpList_load_row rfl 29 (.tmp 2) rfl w.heap.size rfl 29 C0 (0, 0) _ KP Tryz.underlying29 rfl x0.out ?_) | (refine wpList_store_row rfl 29 (.tmp 11) (.tmp 53) rfl V9.heap.size C0 rfl rfl 29 (BZ (.slice none 0 0)) Z11 x0.out y0.out z0.out ?_))
          have HVG : Hid (V9.heap.size ≤ V9.heap.size) := Lib.hid (Nat.le_refl _)
          generalize hV11 : (V9.alloc (.cells (BZ (.slice none 0 0)) 29)).setRow V9.heap.size C0 = V11 at *
          clear hV11 Z11 KP
          have HLR : Hid (∀ j v, (hcel RH)[j]? = some v → V11.cell? ⟨g9, 32 + j, none⟩ = some v) := Lib.hid (fun j v hv => (R9.out.nx M11).cell (by
            have := blc_h SB (.slice A9 SB.txs.length c9) (32 + j) v (hcel_at_r (r := SB.r) (t := SB.t) (b := SB.b) (n := SB.n) HSH.out j v (by rw [show SB.r = RH by rw [HSB.out]]; exact hv))
            exact this))
          have R12 := Lib.hid (R11.out.setRow C1)
          have MM := M11.setRow (g := V9.heap.size) C1 (Nat.le_refl _)
          have RR11 := R11.out
          go_upto_region 12 with (first | (refine wpList_load_at rfl 23 (.tmp 55) rfl g9 32 rfl (hcel RH) _ HLR.out Tryz.underlying23 rfl iR.out ?_) | (refine wpList_store_part rfl 23 (.tmp 58) (.tmp 56) rfl V9.heap.size 32 (hcel RH) rfl rfl 29 C0 RR11 iR.out hold.out (hcel_one _) ?_))
          rw [HRT3.out]
          replace R9 := Lib.hid (R9.out.nx MM)
          replace T9 := Lib.hid (T9.out.nx MM)
          replace NN := Lib.hid (NN.out.trans MM)
          have T1 : Hid (BlAt (V11.setRow V9.heap.size C1) (.slice A0 B.txs.length c0) SB) := Lib.hid (by rw [HSB.out]; exact blAt_root (HT.out.nx NN.out) LH.out)
          have HC1 : Hid (C1 = blc SB (.slice A0 B.txs.length c0)) := Lib.hid (by rw [HSB.out]; exact HCC1.out)
          clear MM M11 RR11 R11 HLR KT HVG
          generalize V11.setRow V9.heap.size C1 = V12 at *
          generalize V9.heap.size = g11 at *
          refine wp_region_sq 9 [some 59, some 60, some 61, some 62, some 63, some 64, some 65, some 66, some 67]
            [.eq (.agg (blc SB (.slice A9 SB.txs.length c9))), .eq (.bool true), .eq (.bool false), .eq (.bool false), .eq (.agg (blc SB (.slice A9 SB.txs.length c9))), .eq (.agg C1), .eq (.bool true), .eq (.bool false), .eq (.bool false)]
            (by kernel_rfl) (by decide) (by decide) ?_ ?_
          · intro x tm wr htm hx i hi hd K hK
            simp only [fillA, List.setIfInBounds_toArray, List.set_cons_zero, List.set_cons_succ] at htm
            subst htm
            have hcs : i = 0 ∨ i = 1 ∨ i = 2 ∨ i = 3 ∨ i = 4 ∨ i = 5 ∨ i = 6 ∨ i = 7 ∨ i = 8 := by omega
            clear hi
            rcases hcs with rfl | rfl | rfl | rfl | rfl | rfl | rfl | rfl | rfl
            · exact sq_of rfl rfl (wp_load_row_of (some 59) rfl 29 (.tmp 9) rfl (g9) rfl 29 ((blc SB (.slice A9 SB.txs.length c9))) _ (R9.out.nx hx) Tryz.underlying29 rfl x9.out (hK _ _ rfl (Nx.refl _)))
            · have e0 : x 0 = .agg (blc SB (.slice A9 SB.txs.length c9)) := hd 0 (by decide)
              generalize x 0 = y0 at e0 hK ⊢
              subst e0
              refine sq_of rfl rfl (wp_call_of (some 60) rfl 18 #[(.agg (blc SB (.slice A9 SB.txs.length c9)))] (by kernel_rfl) (.bool true) ?_ (fun w' h => hK _ w' rfl h))
              exact HSE.out _ wr (T9.out.nx hx) (HKK.out.nx (NN.out.trans hx)) (HG.out.nx (NN.out.trans hx))
            · have e1 : x 1 = .bool true := hd 1 (by decide)
              generalize x 1 = y1 at e1 hK ⊢
              subst e1
              exact sq_of rfl rfl (wp_val_of (some 61) rfl (.bool false) (by kernel_rfl) (hK _ _ rfl (Nx.refl _)))
            · have e2 : x 2 = .bool false := hd 2 (by decide)
              generalize x 2 = y2 at e2 hK ⊢
              subst e2
              exact sq_of rfl rfl (wp_val_of (some 62) rfl (.bool false) (by kernel_rfl) (hK _ _ rfl (Nx.refl _)))
            · have e3 : x 3 = .bool false := hd 3 (by decide)
              generalize x 3 = y3 at e3 hK ⊢
              subst e3
              exact sq_g rfl (by rfl) (wp_load_row_of (some 63) rfl 29 (.tmp 9) rfl (g9) rfl 29 ((blc SB (.slice A9 SB.txs.length c9))) _ (R9.out.nx hx) Tryz.underlying29 rfl x9.out (hK _ _ rfl (Nx.refl _)))
            · have e3 : x 3 = .bool false := hd 3 (by decide)
              generalize x 3 = y3 at e3 hK ⊢
              subst e3
              exact sq_g rfl (by rfl) (wp_load_row_of (some 64) rfl 29 (.tmp 11) rfl (g11) rfl 29 (C1) _ (R12.out.nx hx) Tryz.underlying29 rfl x1.out (hK _ _ rfl (Nx.refl _)))
            · have e4 : x 4 = .agg (blc SB (.slice A9 SB.txs.length c9)) := hd 4 (by decide)
              have e5 : x 5 = .agg C1 := hd 5 (by decide)
              have e3 : x 3 = .bool false := hd 3 (by decide)
              generalize x 4 = y4 at e4 hK ⊢
              subst e4
              generalize x 5 = y5 at e5 hK ⊢
              subst e5
              generalize x 3 = y3 at e3 hK ⊢
              subst e3
              refine sq_g rfl (by rfl) (wp_call_of (some 65) rfl 17 #[(.agg (blc SB (.slice A9 SB.txs.length c9))), (.agg C1)] (by kernel_rfl) (.bool true) ?_ (fun w' h => hK _ w' rfl h))
              exact by rw [HC1.out]; exact HSS.out _ _ wr (T9.out.nx hx) (T1.out.nx hx)
            · have e6 : x 6 = .bool true := hd 6 (by decide)
              have e3 : x 3 = .bool false := hd 3 (by decide)
              generalize x 6 = y6 at e6 hK ⊢
              subst e6
              generalize x 3 = y3 at e3 hK ⊢
              subst e3
              exact sq_g rfl (by rfl) (wp_val_of (some 66) rfl (.bool false) (by kernel_rfl) (hK _ _ rfl (Nx.refl _)))
            · have e3 : x 3 = .bool false := hd 3 (by decide)
              have e7 : x 7 = .bool false := hd 7 (by decide)
              generalize x 3 = y3 at e3 hK ⊢
              subst e3
              generalize x 7 = y7 at e7 hK ⊢
              subst e7
              exact sq_of rfl rfl (wp_val_of (some 67) rfl (.bool false) (by kernel_rfl) (hK _ _ rfl (Nx.refl _)))
          · intro x tm wr htm hx hv
            simp only [fillA, List.setIfInBounds_toArray, List.set_cons_zero, List.set_cons_succ] at htm
            subst htm
            have e8 : x 8 = .bool false := hv 8 (by decide)
            rw [e8]
            replace NN := Lib.hid (NN.out.trans hx)
            clear hx R9 R12 T9 T1 HC1
            go_wp2_with fail
            refine (H7.out _ (HB.out.nx NN.out) (HG.out.nx NN.out)).mono ?_
            rintro e w12 ⟨tv12, rfl, bb12, n12⟩
            have bl12 := bb12 w12 (Above.of_nx (Nx.refl _))
            obtain ⟨A12, c12, rfl, -⟩ := bl12.x.elem
            have Z12 := Row.new w12 (BZ (.slice none 0 0)) 29 _ rfl
            have M12 := ((Nx.refl w12).alloc (.cells (BZ (.slice none 0 0)) 29)).setRow (g := w12.heap.size) (blc Y (.slice A12 Y.txs.length c12)) (Nat.le_refl _)
            have R12 := Lib.hid (Z12.setRow (blc Y (.slice A12 Y.txs.length c12)))
            have T12 := Lib.hid (bl12.nx M12)
            have x12 := Lib.hid (bs.out Y (.slice A12 Y.txs.length c12) bl12.h)
            have y12 := Lib.hid (be.out Y (.slice A12 Y.txs.length c12) bl12.h)
            have z12 := Lib.hid (bo.out Y A12 Y.txs.length c12)
            replace NN := Lib.hid (NN.out.trans (n12.trans M12))
            clear bl12 bb12 n12 M12
            go_upto_region 15 with (refine wpList_store_row rfl 29 (.tmp 12) (.tmp 71) rfl w12.heap.size (blc Y (.slice A12 Y.txs.length c12)) rfl rfl 29 (BZ (.slice none 0 0)) Z12 x12.out y12.out z12.out ?_)
            generalize hg12 : w12.heap.size = g12 at *
            clear Z12 hg12
            generalize (w12.alloc (.cells (BZ (.slice none 0 0)) 29)).setRow g12 (blc Y (.slice A12 Y.txs.length c12)) = V12 at *
            rcases HTA.out with hne | ⟨he, k, hp, hk, HPU⟩
            · have HNE := Lib.hid hne
              clear hne HTA R12 T12
              have hne := HNE.out
              go_wp2_with fail
              refine (HW.out _ (HKK.out.nx NN.out) (HG.out.nx NN.out)).mono ?_
              rintro e wz ⟨rfl, nz⟩
              have NZ := Lib.hid (NN.out.trans nz)
              clear nz NN
              go_wp2_with fail
              go_ret
              exact ⟨rfl, NZ.out⟩
            · subst he
              subst hp
              have hs := slice_to (P := Tryz.prog) 32 5 Tryz.underlying32 Tryz.sizeOf5 A3 l.length c3 k k rfl (by have := HC3.out; omega)
              have RT : Hid (∀ w, Rd w (.slice A3 l.length c3) l → Rd w (.slice A3 k c3) (l.take k)) := Lib.hid fun w hr => by
                obtain ⟨A', c', e', q1, q2, q3⟩ := hr
                injection e' with e1 e2 e3
                subst e1 e3
                exact Rd.pre q3 hk (by have := HC3.out; omega) q2
              have k0 : (0 : Int) ≤ (k : Int) := by omega
              have k1 : (k : Int) ≤ (l.length : Int) := by omega
              have HPV := Lib.hid HPU
              clear HTA HPU hk
              go_wp2_with (refine wpList_load_row rfl 29 (.tmp 12) rfl g12 rfl 29 (blc Y (.slice A12 Y.txs.length c12)) (0, 0) _ R12.out Tryz.underlying29 rfl x12.out ?_)
              refine (HPV.out _ _ T12.out (HG.out.nx NN.out)).mono ?_
              rintro e y3 ⟨vp, rfl, o3, n3⟩
              have ON := Lib.hid o3.rd
              replace NN := Lib.hid (NN.out.trans n3)
              have RN3 := Lib.hid (RT.out _ (HB.out.nx NN.out))
              clear n3 o3 R12 T12
              go_wp2_with fail
              refine (same_yes _ _ (l.take k) _ ON.out RN3.out).mono ?_
              rintro e y4 ⟨rfl, n4⟩
              replace NN := Lib.hid (NN.out.trans n4)
              clear n4
              go_wp2_with fail
              refine (HW.out _ (HKK.out.nx NN.out) (HG.out.nx NN.out)).mono ?_
              rintro e wz ⟨rfl, nz⟩
              have NZ := Lib.hid (NN.out.trans nz)
              clear nz NN
              go_wp2_with fail
              go_ret
              exact ⟨rfl, NZ.out⟩
        · have HRE := Lib.hid he
          clear he HRO KT R9 T9
          have he := HRE.out
          go_wp2_with fail
          refine (H7.out _ (HB.out.nx NN.out) (HG.out.nx NN.out)).mono ?_
          rintro e w12 ⟨tv12, rfl, bb12, n12⟩
          have bl12 := bb12 w12 (Above.of_nx (Nx.refl _))
          obtain ⟨A12, c12, rfl, -⟩ := bl12.x.elem
          have Z12 := Row.new w12 (BZ (.slice none 0 0)) 29 _ rfl
          have M12 := ((Nx.refl w12).alloc (.cells (BZ (.slice none 0 0)) 29)).setRow (g := w12.heap.size) (blc Y (.slice A12 Y.txs.length c12)) (Nat.le_refl _)
          have R12 := Lib.hid (Z12.setRow (blc Y (.slice A12 Y.txs.length c12)))
          have T12 := Lib.hid (bl12.nx M12)
          have x12 := Lib.hid (bs.out Y (.slice A12 Y.txs.length c12) bl12.h)
          have y12 := Lib.hid (be.out Y (.slice A12 Y.txs.length c12) bl12.h)
          have z12 := Lib.hid (bo.out Y A12 Y.txs.length c12)
          replace NN := Lib.hid (NN.out.trans (n12.trans M12))
          clear bl12 bb12 n12 M12
          go_upto_region 15 with (refine wpList_store_row rfl 29 (.tmp 12) (.tmp 71) rfl w12.heap.size (blc Y (.slice A12 Y.txs.length c12)) rfl rfl 29 (BZ (.slice none 0 0)) Z12 x12.out y12.out z12.out ?_)
          generalize hg12 : w12.heap.size = g12 at *
          clear Z12 hg12
          generalize (w12.alloc (.cells (BZ (.slice none 0 0)) 29)).setRow g12 (blc Y (.slice A12 Y.txs.length c12)) = V12 at *
          rcases HTA.out with hne | ⟨he, k, hp, hk, HPU⟩
          · have HNE := Lib.hid hne
            clear hne HTA R12 T12
            have hne := HNE.out
            go_wp2_with fail
            refine (HW.out _ (HKK.out.nx NN.out) (HG.out.nx NN.out)).mono ?_
            rintro e wz ⟨rfl, nz⟩
            have NZ := Lib.hid (NN.out.trans nz)
            clear nz NN
            go_wp2_with fail
            go_ret
            exact ⟨rfl, NZ.out⟩
          · subst he
            subst hp
            have hs := slice_to (P := Tryz.prog) 32 5 Tryz.underlying32 Tryz.sizeOf5 A3 l.length c3 k k rfl (by have := HC3.out; omega)
            have RT : Hid (∀ w, Rd w (.slice A3 l.length c3) l → Rd w (.slice A3 k c3) (l.take k)) := Lib.hid fun w hr => by
              obtain ⟨A', c', e', q1, q2, q3⟩ := hr
              injection e' with e1 e2 e3
              subst e1 e3
              exact Rd.pre q3 hk (by have := HC3.out; omega) q2
            have k0 : (0 : Int) ≤ (k : Int) := by omega
            have k1 : (k : Int) ≤ (l.length : Int) := by omega
            have HPV := Lib.hid HPU
            clear HTA HPU hk
            go_wp2_with (refine wpList_load_row rfl 29 (.tmp 12) rfl g12 rfl 29 (blc Y (.slice A12 Y.txs.length c12)) (0, 0) _ R12.out Tryz.underlying29 rfl x12.out ?_)
            refine (HPV.out _ _ T12.out (HG.out.nx NN.out)).mono ?_
            rintro e y3 ⟨vp, rfl, o3, n3⟩
            have ON := Lib.hid o3.rd
            replace NN := Lib.hid (NN.out.trans n3)
            have RN3 := Lib.hid (RT.out _ (HB.out.nx NN.out))
            clear n3 o3 R12 T12
            go_wp2_with fail
            refine (same_yes _ _ (l.take k) _ ON.out RN3.out).mono ?_
            rintro e y4 ⟨rfl, n4⟩
            replace NN := Lib.hid (NN.out.trans n4)
            clear n4
            go_wp2_with fail
            refine (HW.out _ (HKK.out.nx NN.out) (HG.out.nx NN.out)).mono ?_
            rintro e wz ⟨rfl, nz⟩
            have NZ := Lib.hid (NN.out.trans nz)
            clear nz NN
            go_wp2_with fail
            go_ret
            exact ⟨rfl, NZ.out⟩
end Go.Proofs.YtejeekbpeinioaaGreatDoor
