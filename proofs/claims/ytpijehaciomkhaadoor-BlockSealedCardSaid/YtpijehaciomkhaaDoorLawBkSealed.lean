/- THE LAW BlockSealed. -/
import Derived.Test.YtpijehaciomkhaaDoorBkW
import Derived.Test.YtpijehaciomkhaaDoorBkX
import Derived.Test.YtpijehaciomkhaaDoorBk9
import Derived.Test.YtpijehaciomkhaaDoorBkG
import Derived.Test.YtpijehaciomkhaaDoorRegSq
namespace Go.Proofs.YtpijehaciomkhaaDoor
open Go Go.RowKit
set_option linter.unusedVariables false
set_option linter.unusedSimpArgs false
set_option linter.unusedVariables false
set_option linter.unusedSimpArgs false

set_option maxRecDepth 100000 in
set_option maxHeartbeats 16000000 in
theorem blockSealed_law {w : World} (tv : Value) (B : Blk) (h : BlAt w tv B) (n : Nat) (hn0 : (n : Int) ≤ 255) (m : Nat) (hm0 : (m : Int) ≤ 255) (hE : EIs w) (hK : KIs w) :
    Calls Tryd.prog 3 #[.agg (blc B tv), .int .u8 (n : Int), .int .u8 (m : Int)] w fun e w' => e = .returned (.bool true) ∧ Nx w w' := by
  obtain ⟨q, rfl⟩ : ∃ q : UInt8, m = q.toNat := ⟨UInt8.ofNat m, by rw [UInt8.toNat_ofNat']; omega⟩
  have hn : Hid (n < 256) := Lib.hid (by omega)
  have HGR := Lib.hid (fun W x => bgreat_any tv B W x)
  have H5 : Hid (∀ W, BlAt W tv B → KIs W → EIs W → Calls Tryd.prog 6 #[.agg (blc B tv)] W fun e w' => ∃ tv', e = .returned (.tuple #[.agg (blc (slT B) tv'), .int .i64 (roE B.txs)]) ∧ BlAt w' tv' (slT B) ∧ Nx W w') := Lib.hid (fun W x k g => (bseal_any tv B W x k g).mono fun e w' ⟨tv', q1, q2, q3⟩ => ⟨tv', q1, ⟨q2.1, q2.2.rd⟩, q3⟩)
  have LH := Lib.hid (roH_length B.txs)
  have hi : n % 32 < (roH B.txs).length := by rw [LH.out]; omega
  have HOKB := Lib.hid h.h
  have HX : ∃ SF : Blk, ∃ x : UInt8, ∃ D : Bool, (decide (q = 0) = D) ∧ (roE B.txs = 0 → (∀ v, (blc (slT B) v)[32 + n % 32]? = some (bv x)) ∧ (∀ v, (blc (slT B) v).setIfInBounds (32 + n % 32) (bv (x ^^^ q)) = blc SF v) ∧ (∀ W v, BlAt W v (slT B) → BlAt W v SF) ∧ (∀ v W, BlAt W v SF → KIs W → EIs W → Calls Tryd.prog 7 #[.agg (blc SF v)] W fun e w' => e = .returned (.bool D) ∧ Nx W w')) := by
    refine ⟨{ B with r := (roH B.txs).set (n % 32) ((roH B.txs)[n % 32] ^^^ q) }, (roH B.txs)[n % 32], decide (q = 0), rfl, fun he => ?_⟩
    rcases ro_cases B.txs with ⟨a, b⟩ | ⟨a, b⟩
    · rw [sl_yes a]
      have HO := HOKB.out.root LH.out
      refine ⟨fun v => blc_byte { B with r := roH B.txs } v HO (n % 32) hi, fun v => ?_, fun W v x => blAt_root (B := B) ⟨HOKB.out, x.x⟩ (by simpa using LH.out), fun v W x k g => ?_⟩
      · exact blc_flip { B with r := roH B.txs } v HO (n % 32) (by omega) _
      · have := sealed_any v _ W x k g
        rwa [seB_flip B a (roH B.txs) rfl (n % 32) hi q] at this
    · rw [he] at b; omega
  obtain ⟨SF, x, D, hD, hX⟩ := HX
  have HD := Lib.hid hD
  have HXX := Lib.hid hX
  clear hD hX
  have HRO : Hid ((roE B.txs = 0 ∧ slT B = { B with r := roH B.txs } ∧ ∀ tv W, BlAt W tv (slT B) → KIs W → EIs W → Calls Tryd.prog 7 #[.agg (blc (slT B) tv)] W fun e w' => e = .returned (.bool true) ∧ Nx W w') ∨ ((roE B.txs : Int) != 0) = true) := Lib.hid (by
    rcases ro_cases B.txs with ⟨a, b⟩ | ⟨a, b⟩
    · refine .inl ⟨b, sl_yes a, fun tv W x k g => ?_⟩
      have := sealed_any tv (slT B) W x k g
      rwa [show seB (slT B) = true by rw [sl_yes a]; unfold seB; simp [a]] at this
    · exact .inr (by rw [bne_iff_ne]; omega))
  have HW := Lib.hid (fun w k g => bworks_any w k g)
  have HT := Lib.hid h
  have HG := Lib.hid hE
  have HKK := Lib.hid hK
  obtain ⟨hz, hzs⟩ := zero_of_info info_blz
  have bs := Lib.hid (fun (B : Blk) tv h => blocksz B tv h)
  have be := Lib.hid (fun (B : Blk) tv h => blcsame blZ B (.slice none 0 0) tv HOkZ h)
  have bo := Lib.hid (fun (B : Blk) A n c => blc_one B (.slice A n c) rfl)
  generalize blc blZ = BZ at *
  obtain ⟨A0, c0, htv, -⟩ := h.x.elem
  subst htv
  have x0 := Lib.hid (bs.out B (.slice A0 B.txs.length c0) h.h)
  have KT := Lib.hid (Row.new w (blc B (.slice A0 B.txs.length c0)) 29 _ rfl)
  have NN := Lib.hid ((Nx.refl w).alloc (.cells (blc B (.slice A0 B.txs.length c0)) 29))
  clear h hE hK hi LH HOKB hn0 hm0
  generalize slT B = SB at *
  generalize roE B.txs = RE at *
  generalize roH B.txs = RH at *
  generalize blc B (.slice A0 B.txs.length c0) = C0 at *
  go_enter Tryd.func3, Tryd.ntmps3
  have KP := KT.out
  go_wp2_with (refine wpList_load_row rfl 29 (.tmp 3) rfl w.heap.size rfl 29 C0 (0, 0) _ KP Tryd.underlying29 rfl x0.out ?_)
  refine (HGR.out _ (HT.out.nx NN.out)).mono ?_
  rintro e u0 ⟨b, rfl, n0⟩
  replace KT := Lib.hid (KT.out.nx n0)
  replace NN := Lib.hid (NN.out.trans n0)
  clear n0 HGR KP
  cases b
  case true =>
    go_wp2_with fail
    refine (HW.out _ (HKK.out.nx NN.out) (HG.out.nx NN.out)).mono ?_
    rintro e wz ⟨rfl, nz⟩
    have NZ := Lib.hid (NN.out.trans nz)
    clear nz NN
    go_wp2_with fail
    go_ret
    exact ⟨rfl, NZ.out⟩
  case false =>
    have KP := KT.out
    go_wp2_with (refine wpList_load_row rfl 29 (.tmp 3) rfl w.heap.size rfl 29 C0 (0, 0) _ KP Tryd.underlying29 rfl x0.out ?_)
    refine (H5.out _ (HT.out.nx NN.out) (HKK.out.nx NN.out) (HG.out.nx NN.out)).mono ?_
    rintro e w7 ⟨tv7, rfl, bb7, n7⟩
    have bl7 := bb7
    obtain ⟨A7, c7, rfl, -⟩ := bl7.x.elem
    have Z7 := Row.new w7 (BZ (.slice none 0 0)) 29 _ rfl
    have M7 := ((Nx.refl w7).alloc (.cells (BZ (.slice none 0 0)) 29)).setRow (g := w7.heap.size) (blc SB (.slice A7 SB.txs.length c7)) (Nat.le_refl _)
    have R7 := Lib.hid (Z7.setRow (blc SB (.slice A7 SB.txs.length c7)))
    have T7 := Lib.hid (bl7.nx M7)
    have x7 := Lib.hid (bs.out SB (.slice A7 SB.txs.length c7) bl7.h)
    have y7 := Lib.hid (be.out SB (.slice A7 SB.txs.length c7) bl7.h)
    have z7 := Lib.hid (bo.out SB A7 SB.txs.length c7)
    replace KT := Lib.hid (KT.out.nx (n7.trans M7))
    replace NN := Lib.hid (NN.out.trans (n7.trans M7))
    clear bl7 bb7 n7 M7
    go_upto_region 4 with (refine wpList_store_row rfl 29 (.tmp 7) (.tmp 16) rfl w7.heap.size (blc SB (.slice A7 SB.txs.length c7)) rfl rfl 29 (BZ (.slice none 0 0)) Z7 x7.out y7.out z7.out ?_)
    generalize hg7 : w7.heap.size = g7 at *
    clear Z7 hg7
    generalize (w7.alloc (.cells (BZ (.slice none 0 0)) 29)).setRow g7 (blc SB (.slice A7 SB.txs.length c7)) = V7 at *
    clear KP KT
    rcases HRO.out with ⟨he, hs, hse⟩ | he
    · subst he
      obtain ⟨hB1, hB2, hB3, hB4⟩ := HXX.out rfl
      have HBY := Lib.hid hB1
      have HFL0 := Lib.hid hB2
      have HSF := Lib.hid hB3
      have HSG := Lib.hid hB4
      clear hB1 hB2 hB3 hB4 HXX
      have HSB := Lib.hid hs
      have HSE := Lib.hid hse
      clear hs hse HRO
      have R7P := R7.out
      have Z9 := Row.new V7 (BZ (.slice none 0 0)) 29 _ rfl
      have M9 := ((Nx.refl V7).alloc (.cells (BZ (.slice none 0 0)) 29)).setRow (g := V7.heap.size) (blc SB (.slice A7 SB.txs.length c7)) (Nat.le_refl _)
      have R9 := Lib.hid (Z9.setRow (blc SB (.slice A7 SB.txs.length c7)))
      have HG7 : Hid (g7 < V7.heap.size) := Lib.hid R7.out.lt
      go_upto_region 7 with (first | (refine wpList_load_row rfl 29 (.tmp 7) rfl g7 rfl 29 (blc SB (.slice A7 SB.txs.length c7)) (0, 0) _ R7.out Tryd.underlying29 rfl x7.out ?_) | (refine wpList_store_row rfl 29 (.tmp 9) (.tmp 21) rfl V7.heap.size (blc SB (.slice A7 SB.txs.length c7)) rfl rfl 29 (BZ (.slice none 0 0)) Z9 x7.out y7.out z7.out ?_))
      generalize hV9 : (V7.alloc (.cells (BZ (.slice none 0 0)) 29)).setRow V7.heap.size (blc SB (.slice A7 SB.txs.length c7)) = V9 at *
      clear hV9 Z9 R7P
      have c9 := R9.out.cell (i := 32 + n % 32) (v := bv x) (HBY.out _)
      have f9 := R9.out.frozen (32 + n % 32)
      have hi32 : ((n % 32 : Nat) : Int) < 32 := by omega
      have hi31 : n % 32 < 32 := by omega
      have MM := M9.setAt (k := V7.heap.size) (i := 32 + n % 32) (bv (x ^^^ q)) (Nat.le_refl _)
      have R9S := Lib.hid (R9.out.set (32 + n % 32) (bv (x ^^^ q)))
      go_upto_region 8 with (first | (refine wpList_plain rfl fun K hK => wp_rem8_of (some 23) rfl 5 _ _ _ rfl n hn.out rfl rfl (hK _ _ ?_)) | (refine wpList_plain rfl fun K hK => wp_xor8_of (some 29) rfl 5 _ _ _ rfl x q rfl rfl (hK _ _ ?_)))
      clear c9 f9 hi32 hi31 M9 R9
      replace R7 := Lib.hid (R7.out.nx MM)
      replace T7 := Lib.hid (T7.out.nx MM)
      replace NN := Lib.hid (NN.out.trans MM)
      clear MM
      rw [show Value.int .u8 ((x.toNat ^^^ q.toNat : Nat) : Int) = bv (x ^^^ q) by rw [bv, UInt8.toNat_xor]]
      generalize V9.setCell ⟨V7.heap.size, 32 + n % 32, none⟩ (bv (x ^^^ q)) = W9 at *
      generalize V7.heap.size = g9 at *
      have R9F : Hid (Row W9 g9 (blc SF (.slice A7 SB.txs.length c7)) 29) := Lib.hid (by have h9 := R9S.out; rw [HFL0.out] at h9; exact h9)
      have T9 : Hid (BlAt W9 (.slice A7 SB.txs.length c7) SF) := Lib.hid (HSF.out _ _ T7.out)
      have x9 := Lib.hid (bs.out SF (.slice A7 SB.txs.length c7) T9.out.h)
      clear R9S
      refine wp_region_sq 13 [some 33, some 34, some 35, some 36, some 37, some 38, some 39, some 40, some 41, some 42, some 43, some 44, some 6]
        [.eq (.agg (blc SB (.slice A7 SB.txs.length c7))), .eq (.bool true), .eq (.bool true), .eq (.agg (blc SF (.slice A7 SB.txs.length c7))), .eq (.bool D), .eq (bv q), .eq (.bool D), .eq (.bool true), .eq (.bool true), .eq (.bool true), .eq (.bool true), .eq (.bool true), .eq (.bool true)]
        (by kernel_rfl) (by decide) (by decide) ?_ ?_
      · intro x tm wr htm hx i hi hd K hK
        simp only [fillA, List.setIfInBounds_toArray, List.set_cons_zero, List.set_cons_succ] at htm
        subst htm
        have hcs : i = 0 ∨ i = 1 ∨ i = 2 ∨ i = 3 ∨ i = 4 ∨ i = 5 ∨ i = 6 ∨ i = 7 ∨ i = 8 ∨ i = 9 ∨ i = 10 ∨ i = 11 ∨ i = 12 := by omega
        clear hi
        rcases hcs with rfl | rfl | rfl | rfl | rfl | rfl | rfl | rfl | rfl | rfl | rfl | rfl | rfl
        · exact sq_of rfl rfl (wp_load_row_of (some 33) rfl 29 (.tmp 7) rfl (g7) rfl 29 ((blc SB (.slice A7 SB.txs.length c7))) _ (R7.out.nx hx) Tryd.underlying29 rfl x7.out (hK _ _ rfl (Nx.refl _)))
        · have e0 : x 0 = .agg (blc SB (.slice A7 SB.txs.length c7)) := hd 0 (by decide)
          generalize x 0 = y0 at e0 hK ⊢
          subst e0
          refine sq_of rfl rfl (wp_call_of (some 34) rfl 7 #[(.agg (blc SB (.slice A7 SB.txs.length c7)))] (by kernel_rfl) (.bool true) ?_ (fun w' h => hK _ w' rfl h))
          exact HSE.out _ wr (T7.out.nx hx) (HKK.out.nx (NN.out.trans hx)) (HG.out.nx (NN.out.trans hx))
        · have e1 : x 1 = .bool true := hd 1 (by decide)
          generalize x 1 = y1 at e1 hK ⊢
          subst e1
          exact sq_of rfl rfl (wp_val_of (some 35) rfl (.bool true) (by kernel_rfl) (hK _ _ rfl (Nx.refl _)))
        · have e2 : x 2 = .bool true := hd 2 (by decide)
          generalize x 2 = y2 at e2 hK ⊢
          subst e2
          exact sq_g rfl (by rfl) (wp_load_row_of (some 36) rfl 29 (.tmp 9) rfl (g9) rfl 29 ((blc SF (.slice A7 SB.txs.length c7))) _ (R9F.out.nx hx) Tryd.underlying29 rfl x9.out (hK _ _ rfl (Nx.refl _)))
        · have e3 : x 3 = .agg (blc SF (.slice A7 SB.txs.length c7)) := hd 3 (by decide)
          have e2 : x 2 = .bool true := hd 2 (by decide)
          generalize x 3 = y3 at e3 hK ⊢
          subst e3
          generalize x 2 = y2 at e2 hK ⊢
          subst e2
          refine sq_g rfl (by rfl) (wp_call_of (some 37) rfl 7 #[(.agg (blc SF (.slice A7 SB.txs.length c7)))] (by kernel_rfl) (.bool D) ?_ (fun w' h => hK _ w' rfl h))
          exact HSG.out _ wr (T9.out.nx hx) (HKK.out.nx (NN.out.trans hx)) (HG.out.nx (NN.out.trans hx))
        · have e2 : x 2 = .bool true := hd 2 (by decide)
          generalize x 2 = y2 at e2 hK ⊢
          subst e2
          exact sq_g rfl (by rfl) (wp_val_of (some 38) rfl (bv q) (by kernel_rfl) (hK _ _ rfl (Nx.refl _)))
        · have e5 : x 5 = bv q := hd 5 (by decide)
          have e2 : x 2 = .bool true := hd 2 (by decide)
          generalize x 5 = y5 at e5 hK ⊢
          subst e5
          generalize x 2 = y2 at e2 hK ⊢
          subst e2
          refine sq_g rfl (by rfl) (wp_eq0_of (some 39) rfl 5 _ _ _ rfl q rfl rfl ?_)
          rw [HD.out]
          exact hK _ _ rfl (Nx.refl _)
        · have e4 : x 4 = .bool D := hd 4 (by decide)
          have e6 : x 6 = .bool D := hd 6 (by decide)
          have e2 : x 2 = .bool true := hd 2 (by decide)
          generalize x 4 = y4 at e4 hK ⊢
          subst e4
          generalize x 6 = y6 at e6 hK ⊢
          subst e6
          generalize x 2 = y2 at e2 hK ⊢
          subst e2
          exact sq_g rfl (by rfl) (wp_eqb_ofX (some 40) rfl _ _ _ _ rfl D rfl rfl (eqb_sameX D) (hK _ _ rfl (Nx.refl _)))
        · have e2 : x 2 = .bool true := hd 2 (by decide)
          have e7 : x 7 = .bool true := hd 7 (by decide)
          generalize x 2 = y2 at e2 hK ⊢
          subst e2
          generalize x 7 = y7 at e7 hK ⊢
          subst e7
          exact sq_of rfl rfl (wp_val_of (some 41) rfl (.bool true) (by kernel_rfl) (hK _ _ rfl (Nx.refl _)))
        · have e8 : x 8 = .bool true := hd 8 (by decide)
          generalize x 8 = y8 at e8 hK ⊢
          subst e8
          exact sq_of rfl rfl (wp_val_of (some 42) rfl (.bool true) (by kernel_rfl) (hK _ _ rfl (Nx.refl _)))
        · have e9 : x 9 = .bool true := hd 9 (by decide)
          generalize x 9 = y9 at e9 hK ⊢
          subst e9
          refine sq_g rfl (by rfl) (wp_call_of (some 43) rfl 5 #[] (by kernel_rfl) (.bool true) ?_ (fun w' h => hK _ w' rfl h))
          exact HW.out wr (HKK.out.nx (NN.out.trans hx)) (HG.out.nx (NN.out.trans hx))
        · have e9 : x 9 = .bool true := hd 9 (by decide)
          have e10 : x 10 = .bool true := hd 10 (by decide)
          generalize x 9 = y9 at e9 hK ⊢
          subst e9
          generalize x 10 = y10 at e10 hK ⊢
          subst e10
          exact sq_of rfl rfl (wp_val_of (some 44) rfl (.bool true) (by kernel_rfl) (hK _ _ rfl (Nx.refl _)))
        · have e11 : x 11 = .bool true := hd 11 (by decide)
          generalize x 11 = y11 at e11 hK ⊢
          subst e11
          exact sq_of rfl rfl (wp_val_of (some 6) rfl (.bool true) (by kernel_rfl) (hK _ _ rfl (Nx.refl _)))
      · intro x tm wr htm hx hv
        simp only [fillA, List.setIfInBounds_toArray, List.set_cons_zero, List.set_cons_succ] at htm
        subst htm
        have e12 : x 12 = .bool true := hv 12 (by decide)
        rw [e12]
        go_wp2_with fail
        go_ret
        exact ⟨rfl, NN.out.trans hx⟩
    · have HRE := Lib.hid he
      clear he HRO R7 T7
      have he := HRE.out
      go_wp2_with fail
      refine (HW.out _ (HKK.out.nx NN.out) (HG.out.nx NN.out)).mono ?_
      rintro e wz ⟨rfl, nz⟩
      have NZ := Lib.hid (NN.out.trans nz)
      clear nz NN
      go_wp2_with fail
      go_ret
      exact ⟨rfl, NZ.out⟩
end Go.Proofs.YtpijehaciomkhaaDoor
