/- LAYER 2: the walk of ShaFresh. -/
import Derived.Test.YtpgdfboogjapeaaDoorLawShaPads
import Derived.Test.YtpgdfboogjapeaaDoorSpoil
import Derived.Test.YtpgdfboogjapeaaDoorRegG
import Derived.Test.YtpgdfboogjapeaaDoorEqH
import Derived.Test.YtpgdfboogjapeaaDoorArrLaw
namespace Go.Proofs.YtpgdfboogjapeaaDoor
open Go Go.RowKit
set_option linter.unusedVariables false
set_option linter.unusedSimpArgs false

set_option maxRecDepth 100000 in
set_option maxHeartbeats 4000000 in
theorem shaFresh_law {w : World} (v0 : Value) (l0 : List UInt8) (h0 : Rd w v0 l0) (_ : l0.length ≤ 140737488351232) (hk : KIs w) :
    Calls Tryd.prog 7 #[v0] w fun e w' => e = .returned (.bool true) ∧ Nx w w' := by
  have R0 := Lib.hid h0
  obtain ⟨A0, c0, rfl, hc0, hm0, ha0⟩ := h0
  obtain ⟨hz, hzs⟩ := zero_of_info info_hash'
  go_enter Tryd.func7, Tryd.ntmps7
  go_upto_if 8 with fail
  go_cut [0] (fun s wx => wx = w ∧ Rd w s (l0.take 1000))
  case first =>
    by_cases hle : l0.length ≤ 1000
    · have ht : decide ((1000 : Int) < (l0.length : Int)) = false := by simp; omega
      have ht2 : decide (1000 < l0.length) = false := by simp; omega
      go_wp2_with fail
      go_meet
      exact ⟨rfl, by rw [List.take_of_length_le hle]; exact R0.out⟩
    · have ht : decide ((1000 : Int) < (l0.length : Int)) = true := by simp; omega
      have ht2 : decide (1000 < l0.length) = true := by simp; omega
      have hs := slice_to (P := Tryd.prog) 22 5 Tryd.underlying22 Tryd.sizeOf5 A0 l0.length c0 1000 1000 rfl (by omega)
      go_wp2_with fail
      go_meet
      exact ⟨rfl, cutV_take ha0 (by omega) hc0 hm0⟩
  case rest =>
    obtain ⟨rfl, hr⟩ := hcut
    clear ha0 hc0 hm0 R0
    have Rb := Lib.hid hr
    obtain ⟨A2, c2, rfl, -, -, -⟩ := hr
    have hlb := take_le l0
    generalize l0.take 1000 = b at *
    have HLB := Lib.hid hlb
    have H1 := Lib.hid (wide_any (.slice A2 b.length c2) b wc Rb.out (by omega))
    have HPD : Hid (∀ W v, Rd W v b → Calls Tryd.prog 18 #[v] W fun e w' => ∃ v, e = .returned v ∧ Own W.heap.size w' v (padL b) ∧ Nx W w') := Lib.hid fun W v h => padded_any v b W h (by omega)
    have HRP : Hid (∀ W v, Rd W v b → Calls Tryd.prog 19 #[v] W fun e w' => ∃ v, e = .returned v ∧ Own W.heap.size w' v (padL b) ∧ Nx W w') := Lib.hid fun W v h => rpadded_any v b W h (by omega)
    have HSM : Hid (∀ W v, Nx wc W → Rd W v b → Calls Tryd.prog 9 #[v] W fun e w' => e = .returned (.agg (hcel (shaL b))) ∧ Nx W w') := Lib.hid fun W v h h2 => sum_any v b W (hk.nx h) h2 (by omega)
    have HLF : Hid (∀ W v, Nx wc W → Rd W v b → Calls Tryd.prog 13 #[v] W fun e w' => e = .returned (.agg (hcel (shaL (0 :: b)))) ∧ Nx W w') := Lib.hid fun W v h h2 => leaf_any v b W (hk.nx h) h2 (by omega)
    have HTW : Hid (∀ W v, Nx wc W → Rd W v b → Calls Tryd.prog 11 #[v] W fun e w' => e = .returned (.agg (hcel (shaL (shaL b)))) ∧ Nx W w') := Lib.hid fun W v h h2 => twice_any v b W (hk.nx h) h2 (by omega)
    have HW : Hid (∀ W, Nx wc W → Calls Tryd.prog 20 #[] W fun e w' => e = .returned (.bool true) ∧ Nx W w') := Lib.hid fun W h => works_any W (hk.nx h)
    have EQ := Lib.hid (fun w => eq_hash' (shaL b) (shaL_length b) w)
    have L1 := Lib.hid (shaL_length b)
    have HZL : Hid ((List.replicate 32 (0 : UInt8)).length = 32) := Lib.hid List.length_replicate
    clear hlb hk
    generalize shaL (shaL b) = H3 at *
    generalize shaL (0 :: b) = H2 at *
    generalize shaL b = H at *
    generalize padL b = p at *
    generalize List.replicate 32 (0 : UInt8) = Z at *
    have i1 := Lib.hid (hashsz H L1.out)
    have j1 := Lib.hid (hashsame Z H HZL.out L1.out)
    go_wp2_with fail
    refine H1.out.mono ?_
    rintro e w1 ⟨v1, rfl, o1, n1⟩
    have WA1 := Lib.hid o1
    have RV1 := Lib.hid (o1.rd (by have := HLB.out; omega))
    obtain ⟨g1, rfl, hg1, hh1⟩ := o1
    have hg1' : Hid (g1 < w1.heap.size) := Lib.hid (Array.getElem?_eq_some_iff.1 hh1).1
    have N1 := Lib.hid n1
    clear n1 hh1 hg1 H1
    go_wp2_with fail
    refine (HPD.out _ _ RV1.out).mono ?_
    rintro e w2 ⟨v2, rfl, o2, n2⟩
    have N2 := Lib.hid n2
    have O2 := Lib.hid o2
    clear n2 o2
    go_wp2_with fail
    refine (HSM.out _ _ (N1.out.trans N2.out) (RV1.out.nx N2.out)).mono ?_
    rintro e w3 ⟨rfl, n3⟩
    have N13 := Lib.hid (N2.out.trans n3)
    have O3 := Lib.hid (O2.out.nx n3)
    clear n3 O2 N2
    have R3 := Row.new w3 (hcel Z) 24 _ rfl
    go_wp2_with (refine wpList_store_row rfl 24 (.tmp 5) (.tmp 16) rfl w3.heap.size (hcel H) rfl rfl 24 (hcel Z) R3 i1.out j1.out (hcel_one _) ?_)
    have NS : Hid (Nx w3 ((w3.alloc (.cells (hcel Z) 24)).setRow w3.heap.size (hcel H))) := Lib.hid (((Nx.refl w3).alloc _).setRow _ (Nat.le_refl _))
    have R3' := R3.setRow (hcel H)
    clear R3
    generalize ((w3.alloc (.cells (hcel Z) 24)).setRow w3.heap.size (hcel H)) = W3 at *
    refine (HLF.out _ _ (N1.out.trans (N13.out.trans NS.out)) (RV1.out.nx (N13.out.trans NS.out))).mono ?_
    rintro e w4 ⟨rfl, n4⟩
    have N14 := Lib.hid ((N13.out.trans NS.out).trans n4)
    have NS4 := Lib.hid (NS.out.trans n4)
    have R4 := R3'.nx n4
    clear n4 NS R3'
    go_wp2_with fail
    refine (HTW.out _ _ (N1.out.trans N14.out) (RV1.out.nx N14.out)).mono ?_
    rintro e w5 ⟨rfl, n5⟩
    have N15 := Lib.hid (N14.out.trans n5)
    have O5 := Lib.hid ((O3.out.nx NS4.out).nx n5)
    have R5 := R4.nx n5
    clear n5 R4 N14 NS4
    go_wp2_with fail
    refine (spoil_one' w1.heap.size v2 p w5 O5.out).mono ?_
    rintro e w6 ⟨rfl, b6, f6⟩
    have R6 : Row w6 w3.heap.size (hcel H) 24 := by
      unfold Row
      rw [f6 _ (fun e => by have := O3.out.lt _ e; omega)]
      exact R5
    have WA : Hid (WideAt wc.heap.size w6 (.slice (some ⟨g1, 0, none⟩) b.length (b.length + 3)) b) := Lib.hid (by
      obtain ⟨g, e, hg, hh⟩ := WA1.out.nx N15.out
      have hgg : g = g1 := by injection e with e1; injection e1 with e2; injection e2 with e3; exact e3.symm
      subst hgg
      exact ⟨g, rfl, hg, Below.blk b6 hg1'.out hh⟩)
    have N6 : Hid (Nx wc w6) := Lib.hid ((N1.out.trans N15.out).app (b6.mono (N1.out.size)))
    clear f6 b6 R5 O5 N15 WA1 RV1 N13 O3 hg1' HLF HTW
    go_wp2_with fail
    refine wp_region_nx 20 [[], [], [0, 1], [2, 2], [3], [3], [5, 3, 3], [4, 6, 3], [3, 7], [8, 6], [9], [10, 9, 9], [9], [12, 11, 9], [11, 13, 13, 9], [9, 14], [15, 14], [16, 16], [16, 17], [18, 17, 0, 1, 2, 3, 4, 5, 6, 7, 8, 9, 10, 11, 12, 13, 14, 15, 16, 17, 18]] [some 23, some 24, some 25, some 26, some 27, some 28, some 29, some 30, some 31, some 32, some 33, some 34, some 35, some 36, some 37, some 38, some 39, some 40, some 41, some 2]
      [.eq (.slice (some ⟨g1, 0, none⟩) b.length (b.length + 3)), .eq (.slice A2 b.length c2), .eq (.bool true), .eq (.bool true), .eq (.agg (hcel H)), .eq (.slice A2 b.length c2), .eq (.agg (hcel H)), .eq (.bool true), .eq (.bool true), .eq (.bool true), .eq (.slice A2 b.length c2), .rd (p), .eq (.slice A2 b.length c2), .rd (p), .eq (.bool true), .eq (.bool true), .eq (.bool true), .eq (.bool true), .eq (.bool true), .eq (.bool true)]
      (by kernel_rfl) (by kernel_rfl) (hord_of (by decide)) (by kernel_rfl) (by decide) (by decide) (htail_of (by decide)) ?_ _ (by rfl) ?_
    · intro x tm wr htm hx i hi hd K hK
      simp only [fillA, List.setIfInBounds_toArray, List.set_cons_zero, List.set_cons_succ] at htm
      subst htm
      have hcs : i = 0 ∨ i = 1 ∨ i = 2 ∨ i = 3 ∨ i = 4 ∨ i = 5 ∨ i = 6 ∨ i = 7 ∨ i = 8 ∨ i = 9 ∨ i = 10 ∨ i = 11 ∨ i = 12 ∨ i = 13 ∨ i = 14 ∨ i = 15 ∨ i = 16 ∨ i = 17 ∨ i = 18 ∨ i = 19 := by omega
      clear hi
      rcases hcs with rfl | rfl | rfl | rfl | rfl | rfl | rfl | rfl | rfl | rfl | rfl | rfl | rfl | rfl | rfl | rfl | rfl | rfl | rfl | rfl
      · exact wpOp_of rfl rfl (wp_val_of (some 23) rfl (.slice (some ⟨g1, 0, none⟩) b.length (b.length + 3)) (by kernel_rfl) (hK _ _ rfl (Nx.refl _)))
      · exact wpOp_of rfl rfl (wp_val_of (some 24) rfl (.slice A2 b.length c2) (by kernel_rfl) (hK _ _ rfl (Nx.refl _)))
      · have e0 : x 0 = .slice (some ⟨g1, 0, none⟩) b.length (b.length + 3) := hd 0 (by decide)
        have e1 : x 1 = .slice A2 b.length c2 := hd 1 (by decide)
        generalize x 0 = y0 at e0 hK ⊢
        subst e0
        generalize x 1 = y1 at e1 hK ⊢
        subst e1
        refine wpOp_of rfl rfl (wp_call_of (some 25) rfl 27 #[(.slice (some ⟨g1, 0, none⟩) b.length (b.length + 3)), (.slice A2 b.length c2)] (by kernel_rfl) (.bool true) ?_ (fun w' h => hK _ w' rfl h))
        exact left_any wc.heap.size _ _ b wr (WA.out.nx hx) ((Rb.out.nx N6.out).nx hx) (by have := HLB.out; omega)
      · have e2 : x 2 = .bool true := hd 2 (by decide)
        generalize x 2 = y2 at e2 hK ⊢
        subst e2
        exact wpOp_of rfl rfl (wp_val_of (some 26) rfl (.bool true) (by kernel_rfl) (hK _ _ rfl (Nx.refl _)))
      · have e3 : x 3 = .bool true := hd 3 (by decide)
        generalize x 3 = y3 at e3 hK ⊢
        subst e3
        exact wpOp_g rfl (by rfl) (wp_load_row_of (some 27) rfl 24 (.tmp 5) rfl (w3.heap.size) rfl 24 (hcel H) _ (R6.nx hx) Tryd.underlying24 rfl i1.out (hK _ _ rfl (Nx.refl _)))
      · have e3 : x 3 = .bool true := hd 3 (by decide)
        generalize x 3 = y3 at e3 hK ⊢
        subst e3
        exact wpOp_g rfl (by rfl) (wp_val_of (some 28) rfl (.slice A2 b.length c2) (by kernel_rfl) (hK _ _ rfl (Nx.refl _)))
      · have e5 : x 5 = .slice A2 b.length c2 := hd 5 (by decide)
        have e3 : x 3 = .bool true := hd 3 (by decide)
        generalize x 5 = y5 at e5 hK ⊢
        subst e5
        generalize x 3 = y3 at e3 hK ⊢
        subst e3
        refine wpOp_g rfl (by rfl) (wp_call_of (some 29) rfl 9 #[(.slice A2 b.length c2)] (by kernel_rfl) (.agg (hcel H)) ?_ (fun w' h => hK _ w' rfl h))
        exact HSM.out wr _ (N6.out.trans hx) ((Rb.out.nx N6.out).nx hx)
      · have e4 : x 4 = .agg (hcel H) := hd 4 (by decide)
        have e6 : x 6 = .agg (hcel H) := hd 6 (by decide)
        have e3 : x 3 = .bool true := hd 3 (by decide)
        generalize x 4 = y4 at e4 hK ⊢
        subst e4
        generalize x 6 = y6 at e6 hK ⊢
        subst e6
        generalize x 3 = y3 at e3 hK ⊢
        subst e3
        exact wpOp_g rfl (by rfl) (wp_eql_of (some 30) rfl 24 _ _ _ rfl (hcel H) (hcel H) rfl rfl (by kernel_rfl) true (EQ.out wr) (hK _ _ rfl (Nx.refl _)))
      · have e3 : x 3 = .bool true := hd 3 (by decide)
        have e7 : x 7 = .bool true := hd 7 (by decide)
        generalize x 3 = y3 at e3 hK ⊢
        subst e3
        generalize x 7 = y7 at e7 hK ⊢
        subst e7
        exact wpOp_of rfl rfl (wp_val_of (some 31) rfl (.bool true) (by kernel_rfl) (hK _ _ rfl (Nx.refl _)))
      · have e8 : x 8 = .bool true := hd 8 (by decide)
        have e6 : x 6 = .agg (hcel H) := hd 6 (by decide)
        generalize x 8 = y8 at e8 hK ⊢
        subst e8
        generalize x 6 = y6 at e6 hK ⊢
        subst e6
        exact wpOp_of rfl rfl (wp_val_of (some 32) rfl (.bool true) (by kernel_rfl) (hK _ _ rfl (Nx.refl _)))
      · have e9 : x 9 = .bool true := hd 9 (by decide)
        generalize x 9 = y9 at e9 hK ⊢
        subst e9
        exact wpOp_g rfl (by rfl) (wp_val_of (some 33) rfl (.slice A2 b.length c2) (by kernel_rfl) (hK _ _ rfl (Nx.refl _)))
      · have e10 : x 10 = .slice A2 b.length c2 := hd 10 (by decide)
        have e9 : x 9 = .bool true := hd 9 (by decide)
        generalize x 10 = y10 at e10 hK ⊢
        subst e10
        generalize x 9 = y9 at e9 hK ⊢
        subst e9
        refine wpOp_g rfl (by rfl) (wp_callp_of (some 34) rfl 18 #[(.slice A2 b.length c2)] (by kernel_rfl) (fun v w' => Rd w' v (p)) ?_ hK)
        exact (HPD.out wr _ ((Rb.out.nx N6.out).nx hx)).mono fun _ _ ⟨v, h1, h2, h3⟩ => ⟨v, h1, h2.rd, h3⟩
      · have e9 : x 9 = .bool true := hd 9 (by decide)
        generalize x 9 = y9 at e9 hK ⊢
        subst e9
        exact wpOp_g rfl (by rfl) (wp_val_of (some 35) rfl (.slice A2 b.length c2) (by kernel_rfl) (hK _ _ rfl (Nx.refl _)))
      · have e12 : x 12 = .slice A2 b.length c2 := hd 12 (by decide)
        have r11 : Rd wr (x 11) (p) := hd 11 (by decide)
        have e9 : x 9 = .bool true := hd 9 (by decide)
        generalize x 12 = y12 at e12 hK ⊢
        subst e12
        generalize x 9 = y9 at e9 hK ⊢
        subst e9
        refine wpOp_g rfl (by rfl) (wp_callp_of (some 36) rfl 19 #[(.slice A2 b.length c2)] (by kernel_rfl) (fun v w' => Rd w' v (p)) ?_ hK)
        exact (HRP.out wr _ ((Rb.out.nx N6.out).nx hx)).mono fun _ _ ⟨v, h1, h2, h3⟩ => ⟨v, h1, h2.rd, h3⟩
      · have r11 : Rd wr (x 11) (p) := hd 11 (by decide)
        have r13 : Rd wr (x 13) (p) := hd 13 (by decide)
        have e9 : x 9 = .bool true := hd 9 (by decide)
        generalize x 9 = y9 at e9 hK ⊢
        subst e9
        refine wpOp_g rfl (by rfl) (wp_call_of (some 37) rfl 17 #[x 11, x 13] (by kernel_rfl) (.bool true) ?_ (fun w' h => hK _ w' rfl h))
        exact same_yes _ _ p wr r11 r13
      · have e9 : x 9 = .bool true := hd 9 (by decide)
        have e14 : x 14 = .bool true := hd 14 (by decide)
        generalize x 9 = y9 at e9 hK ⊢
        subst e9
        generalize x 14 = y14 at e14 hK ⊢
        subst e14
        exact wpOp_of rfl rfl (wp_val_of (some 38) rfl (.bool true) (by kernel_rfl) (hK _ _ rfl (Nx.refl _)))
      · have e15 : x 15 = .bool true := hd 15 (by decide)
        have e14 : x 14 = .bool true := hd 14 (by decide)
        generalize x 15 = y15 at e15 hK ⊢
        subst e15
        generalize x 14 = y14 at e14 hK ⊢
        subst e14
        exact wpOp_of rfl rfl (wp_val_of (some 39) rfl (.bool true) (by kernel_rfl) (hK _ _ rfl (Nx.refl _)))
      · have e16 : x 16 = .bool true := hd 16 (by decide)
        generalize x 16 = y16 at e16 hK ⊢
        subst e16
        refine wpOp_g rfl (by rfl) (wp_call_of (some 40) rfl 20 #[] (by kernel_rfl) (.bool true) ?_ (fun w' h => hK _ w' rfl h))
        exact HW.out wr (N6.out.trans hx)
      · have e16 : x 16 = .bool true := hd 16 (by decide)
        have e17 : x 17 = .bool true := hd 17 (by decide)
        generalize x 16 = y16 at e16 hK ⊢
        subst e16
        generalize x 17 = y17 at e17 hK ⊢
        subst e17
        exact wpOp_of rfl rfl (wp_val_of (some 41) rfl (.bool true) (by kernel_rfl) (hK _ _ rfl (Nx.refl _)))
      · have e18 : x 18 = .bool true := hd 18 (by decide)
        have e17 : x 17 = .bool true := hd 17 (by decide)
        have e0 : x 0 = .slice (some ⟨g1, 0, none⟩) b.length (b.length + 3) := hd 0 (by decide)
        have e1 : x 1 = .slice A2 b.length c2 := hd 1 (by decide)
        have e2 : x 2 = .bool true := hd 2 (by decide)
        have e3 : x 3 = .bool true := hd 3 (by decide)
        have e4 : x 4 = .agg (hcel H) := hd 4 (by decide)
        have e5 : x 5 = .slice A2 b.length c2 := hd 5 (by decide)
        have e6 : x 6 = .agg (hcel H) := hd 6 (by decide)
        have e7 : x 7 = .bool true := hd 7 (by decide)
        have e8 : x 8 = .bool true := hd 8 (by decide)
        have e9 : x 9 = .bool true := hd 9 (by decide)
        have e10 : x 10 = .slice A2 b.length c2 := hd 10 (by decide)
        have r11 : Rd wr (x 11) (p) := hd 11 (by decide)
        have e12 : x 12 = .slice A2 b.length c2 := hd 12 (by decide)
        have r13 : Rd wr (x 13) (p) := hd 13 (by decide)
        have e14 : x 14 = .bool true := hd 14 (by decide)
        have e15 : x 15 = .bool true := hd 15 (by decide)
        have e16 : x 16 = .bool true := hd 16 (by decide)
        generalize x 18 = y18 at e18 hK ⊢
        subst e18
        generalize x 17 = y17 at e17 hK ⊢
        subst e17
        generalize x 0 = y0 at e0 hK ⊢
        subst e0
        generalize x 1 = y1 at e1 hK ⊢
        subst e1
        generalize x 2 = y2 at e2 hK ⊢
        subst e2
        generalize x 3 = y3 at e3 hK ⊢
        subst e3
        generalize x 4 = y4 at e4 hK ⊢
        subst e4
        generalize x 5 = y5 at e5 hK ⊢
        subst e5
        generalize x 6 = y6 at e6 hK ⊢
        subst e6
        generalize x 7 = y7 at e7 hK ⊢
        subst e7
        generalize x 8 = y8 at e8 hK ⊢
        subst e8
        generalize x 9 = y9 at e9 hK ⊢
        subst e9
        generalize x 10 = y10 at e10 hK ⊢
        subst e10
        generalize x 12 = y12 at e12 hK ⊢
        subst e12
        generalize x 14 = y14 at e14 hK ⊢
        subst e14
        generalize x 15 = y15 at e15 hK ⊢
        subst e15
        generalize x 16 = y16 at e16 hK ⊢
        subst e16
        exact wpOp_of rfl rfl (wp_val_of (some 2) rfl (.bool true) (by kernel_rfl) (hK _ _ rfl (Nx.refl _)))
    · intro x tm wr htm hx hv
      simp only [fillA, List.setIfInBounds_toArray, List.set_cons_zero, List.set_cons_succ] at htm
      subst htm
      have e0 : x 0 = .slice (some ⟨g1, 0, none⟩) b.length (b.length + 3) := hv 0 (by decide)
      rw [e0]
      have e1 : x 1 = .slice A2 b.length c2 := hv 1 (by decide)
      rw [e1]
      have e2 : x 2 = .bool true := hv 2 (by decide)
      rw [e2]
      have e3 : x 3 = .bool true := hv 3 (by decide)
      rw [e3]
      have e4 : x 4 = .agg (hcel H) := hv 4 (by decide)
      rw [e4]
      have e5 : x 5 = .slice A2 b.length c2 := hv 5 (by decide)
      rw [e5]
      have e6 : x 6 = .agg (hcel H) := hv 6 (by decide)
      rw [e6]
      have e7 : x 7 = .bool true := hv 7 (by decide)
      rw [e7]
      have e8 : x 8 = .bool true := hv 8 (by decide)
      rw [e8]
      have e9 : x 9 = .bool true := hv 9 (by decide)
      rw [e9]
      have e10 : x 10 = .slice A2 b.length c2 := hv 10 (by decide)
      rw [e10]
      have r11 := hv 11 (by decide)
      have e12 : x 12 = .slice A2 b.length c2 := hv 12 (by decide)
      rw [e12]
      have r13 := hv 13 (by decide)
      have e14 : x 14 = .bool true := hv 14 (by decide)
      rw [e14]
      have e15 : x 15 = .bool true := hv 15 (by decide)
      rw [e15]
      have e16 : x 16 = .bool true := hv 16 (by decide)
      rw [e16]
      have e17 : x 17 = .bool true := hv 17 (by decide)
      rw [e17]
      have e18 : x 18 = .bool true := hv 18 (by decide)
      rw [e18]
      have e19 : x 19 = .bool true := hv 19 (by decide)
      rw [e19]
      refine wpList_nil ?_
      go_wp2_with fail
      go_ret
      exact ⟨rfl, N6.out.trans hx⟩
end Go.Proofs.YtpgdfboogjapeaaDoor
