/- LAYER 2: the walk of ShaTells. -/
import Derived.Test.YtpgdfboogjapeaaDoorLawShaFresh
namespace Go.Proofs.YtpgdfboogjapeaaDoor
open Go Go.RowKit
set_option linter.unusedVariables false
set_option linter.unusedSimpArgs false

set_option maxRecDepth 100000 in
set_option maxHeartbeats 8000000 in
theorem shaTells_law {w : World} (v0 : Value) (l0 : List UInt8) (h0 : Rd w v0 l0) (_ : l0.length ≤ 140737488351232) (s : List UInt8) (hx : s.length = 32) (t : List UInt8) (hy : t.length = 32) (hk : KIs w) :
    Calls Tryd.prog 3 #[v0, .agg (hcel s), .agg (hcel t)] w fun e w' => e = .returned (.bool true) ∧ Nx w w' := by
  have HLX := Lib.hid hx
  have HLY := Lib.hid hy
  have ix := Lib.hid (hashsz s hx)
  have iy := Lib.hid (hashsz t hy)
  clear hx hy
  have RX0 := Lib.hid ((Row.new w (hcel s) 24 _ rfl).alloc (.cells (hcel t) 24))
  have RY0 := Lib.hid (Row.new2 w (.cells (hcel s) 24) (hcel t) 24)
  have N0 := Lib.hid (((Nx.refl w).alloc (.cells (hcel s) 24)).alloc (.cells (hcel t) 24))
  have R0 := Lib.hid (h0.nx N0.out)
  have HK0 := Lib.hid (hk.nx N0.out)
  clear hk
  have h0' := h0
  obtain ⟨A0, c0, rfl, hc0, hm0, ha0⟩ := h0'
  have ha0' := ha0.nx N0.out
  clear ha0 h0
  go_enter Tryd.func3, Tryd.ntmps3
  go_upto_if 10 with fail
  go_cut [0] (fun sl wx => wx = (w.alloc (.cells (hcel s) 24)).alloc (.cells (hcel t) 24) ∧ Rd wx sl (l0.take 1000))
  case first =>
    by_cases hle : l0.length ≤ 1000
    · have ht : decide ((1000 : Int) < (l0.length : Int)) = false := by simp; omega
      have ht2 : decide (1000 < l0.length) = false := by simp; omega
      go_wp2_with fail
      go_meet
      exact ⟨rfl, by rw [List.take_of_length_le hle]; exact R0.out⟩
    · have ht : decide ((1000 : Int) < (l0.length : Int)) = true := by simp; omega
      have ht2 : decide (1000 < l0.length) = true := by simp; omega
      have hs := slice_to (P := Tryd.prog) 22 5 Tryd.underlying22 Tryd.sizeOf5 A0 l0.length c0 1000 1000 rfl (by omega)
      go_wp2_with fail
      go_meet
      exact ⟨rfl, cutV_take ha0' (by omega) hc0 hm0⟩
  case rest =>
    obtain ⟨rfl, hr⟩ := hcut
    clear ha0' hc0 hm0 R0
    have RX1 := RX0.out
    have RY1 := RY0.out
    clear RX0 RY0
    generalize (w.alloc (.cells (hcel s) 24)).alloc (.cells (hcel t) 24) = wc at *
    have Rb := Lib.hid hr
    obtain ⟨A2, c2, rfl, -, -, -⟩ := hr
    have hlb := take_le l0
    generalize l0.take 1000 = b at *
    have hk := HK0.out
    clear HK0
    have HS1 : Hid (∀ W v, Nx wc W → Rd W v b → Calls Tryd.prog 9 #[v] W fun e w' => e = .returned (.agg (hcel (shaL b))) ∧ Nx W w') := Lib.hid fun W v h h2 => sum_any v b W (hk.nx h) h2 (by omega)
    have HT1 : Hid (∀ W v, Nx wc W → Rd W v b → Calls Tryd.prog 11 #[v] W fun e w' => e = .returned (.agg (hcel (shaL (shaL b)))) ∧ Nx W w') := Lib.hid fun W v h h2 => twice_any v b W (hk.nx h) h2 (by omega)
    have HL1 : Hid (∀ W v, Nx wc W → Rd W v b → Calls Tryd.prog 13 #[v] W fun e w' => e = .returned (.agg (hcel (shaL (0 :: b)))) ∧ Nx W w') := Lib.hid fun W v h h2 => leaf_any v b W (hk.nx h) h2 (by omega)
    have HP1 : Hid (∀ W, Nx wc W → Calls Tryd.prog 15 #[.agg (hcel s), .agg (hcel t)] W fun e w' => e = .returned (.agg (hcel (shaL (1 :: (s ++ t))))) ∧ Nx W w') := Lib.hid fun W h => pair_any s t W (hk.nx h) HLX.out HLY.out
    have HS2 : Hid (∀ {g} W v, Has W g → Rd W v b → Calls Tryd.prog 10 #[.pointer (some ⟨g, 0, none⟩), v] W fun e w' => e = .returned (.agg (hcel (shaL b))) ∧ Nx W w') := Lib.hid fun W v h h2 => rsum_any _ v b W h h2 (by omega)
    have HT2 : Hid (∀ {g} W v, Has W g → Rd W v b → Calls Tryd.prog 12 #[.pointer (some ⟨g, 0, none⟩), v] W fun e w' => e = .returned (.agg (hcel (shaL (shaL b)))) ∧ Nx W w') := Lib.hid fun W v h h2 => rtwice_any _ v b W h h2 (by omega)
    have HL2 : Hid (∀ {g} W v, Has W g → Rd W v b → Calls Tryd.prog 14 #[.pointer (some ⟨g, 0, none⟩), v] W fun e w' => e = .returned (.agg (hcel (shaL (0 :: b)))) ∧ Nx W w') := Lib.hid fun W v h h2 => rleaf_any _ v b W h h2 (by omega)
    have HP2 : Hid (∀ {g} W, Has W g → Calls Tryd.prog 16 #[.pointer (some ⟨g, 0, none⟩), .agg (hcel s), .agg (hcel t)] W fun e w' => e = .returned (.agg (hcel (shaL (1 :: (s ++ t))))) ∧ Nx W w') := Lib.hid fun W h => rpair_any _ s t W h HLX.out HLY.out
    have HPD : Hid (∀ W v, Rd W v b → Calls Tryd.prog 18 #[v] W fun e w' => ∃ v, e = .returned v ∧ Own W.heap.size w' v (padL b) ∧ Nx W w') := Lib.hid fun W v h => padded_any v b W h (by omega)
    have HRP : Hid (∀ W v, Rd W v b → Calls Tryd.prog 19 #[v] W fun e w' => ∃ v, e = .returned v ∧ Own W.heap.size w' v (padL b) ∧ Nx W w') := Lib.hid fun W v h => rpadded_any v b W h (by omega)
    have HW : Hid (∀ W, Nx wc W → Calls Tryd.prog 20 #[] W fun e w' => e = .returned (.bool true) ∧ Nx W w') := Lib.hid fun W h => works_any W (hk.nx h)
    have EQ1 := Lib.hid (fun w => eq_hash' (shaL b) (shaL_length b) w)
    have EQ2 := Lib.hid (fun w => eq_hash' (shaL (shaL b)) (shaL_length _) w)
    have EQ3 := Lib.hid (fun w => eq_hash' (shaL (0 :: b)) (shaL_length _) w)
    have EQ4 := Lib.hid (fun w => eq_hash' (shaL (1 :: (s ++ t))) (shaL_length _) w)
    clear hlb hk
    generalize shaL (shaL b) = H2 at *
    generalize shaL (0 :: b) = H3 at *
    generalize shaL (1 :: (s ++ t)) = H4 at *
    generalize shaL b = H1 at *
    generalize padL b = p at *
    go_wp2_with fail
    refine (new_any _).mono ?_
    rintro e w3 ⟨g, rfl, hg, G3, n3⟩
    have N3 := Lib.hid n3
    have HG3 := Lib.hid G3
    have RX := RX1.nx n3
    have RY := RY1.nx n3
    clear n3 G3 RX1 RY1 hg
    have G3 := HG3
    clear HG3
    go_wp2_with fail
    refine wp_region_nx 43 [[], [0], [], [], [2, 3, 1], [1, 4], [5, 4], [6], [7, 6, 6], [6], [6], [9, 10, 8, 6], [8, 11, 6], [6, 12], [13, 11], [14], [15, 14, 14], [14], [14], [17, 18, 16, 14], [16, 19, 14], [14, 20], [21, 19], [22], [22], [23, 24, 22, 22], [22], [22], [22], [26, 27, 28, 25, 22], [25, 29, 22], [22, 30], [31, 29], [32], [33, 32, 32], [32], [35, 34, 32], [34, 36, 36, 32], [32, 37], [38, 37], [39, 39], [39, 40], [41, 40, 0, 1, 2, 3, 4, 5, 6, 7, 8, 9, 10, 11, 12, 13, 14, 15, 16, 17, 18, 19, 20, 21, 22, 23, 24, 25, 26, 27, 28, 29, 30, 31, 32, 33, 34, 35, 36, 37, 38, 39, 40, 41]] [some 14, some 15, some 16, some 17, some 18, some 19, some 20, some 21, some 22, some 23, some 24, some 25, some 26, some 27, some 28, some 29, some 30, some 31, some 32, some 33, some 34, some 35, some 36, some 37, some 38, some 39, some 40, some 41, some 42, some 43, some 44, some 45, some 46, some 47, some 48, some 49, some 50, some 51, some 52, some 53, some 54, some 55, some 6]
      [.eq (.slice A2 b.length c2), .eq (.agg (hcel H1)), .eq (.pointer (some ⟨g, 0, none⟩)), .eq (.slice A2 b.length c2), .eq (.agg (hcel H1)), .eq (.bool true), .eq (.bool true), .eq (.slice A2 b.length c2), .eq (.agg (hcel H2)), .eq (.pointer (some ⟨g, 0, none⟩)), .eq (.slice A2 b.length c2), .eq (.agg (hcel H2)), .eq (.bool true), .eq (.bool true), .eq (.bool true), .eq (.slice A2 b.length c2), .eq (.agg (hcel H3)), .eq (.pointer (some ⟨g, 0, none⟩)), .eq (.slice A2 b.length c2), .eq (.agg (hcel H3)), .eq (.bool true), .eq (.bool true), .eq (.bool true), .eq (.agg (hcel s)), .eq (.agg (hcel t)), .eq (.agg (hcel H4)), .eq (.pointer (some ⟨g, 0, none⟩)), .eq (.agg (hcel s)), .eq (.agg (hcel t)), .eq (.agg (hcel H4)), .eq (.bool true), .eq (.bool true), .eq (.bool true), .eq (.slice A2 b.length c2), .rd (p), .eq (.slice A2 b.length c2), .rd (p), .eq (.bool true), .eq (.bool true), .eq (.bool true), .eq (.bool true), .eq (.bool true), .eq (.bool true)]
      (by kernel_rfl) (by kernel_rfl) (hord_of (by decide)) (by kernel_rfl) (by decide) (by decide) (htail_of (by decide)) ?_ _ (by rfl) ?_
    · intro x tm wr htm hx i hi hd K hK
      simp only [fillA, List.setIfInBounds_toArray, List.set_cons_zero, List.set_cons_succ] at htm
      subst htm
      have hcs : i = 0 ∨ i = 1 ∨ i = 2 ∨ i = 3 ∨ i = 4 ∨ i = 5 ∨ i = 6 ∨ i = 7 ∨ i = 8 ∨ i = 9 ∨ i = 10 ∨ i = 11 ∨ i = 12 ∨ i = 13 ∨ i = 14 ∨ i = 15 ∨ i = 16 ∨ i = 17 ∨ i = 18 ∨ i = 19 ∨ i = 20 ∨ i = 21 ∨ i = 22 ∨ i = 23 ∨ i = 24 ∨ i = 25 ∨ i = 26 ∨ i = 27 ∨ i = 28 ∨ i = 29 ∨ i = 30 ∨ i = 31 ∨ i = 32 ∨ i = 33 ∨ i = 34 ∨ i = 35 ∨ i = 36 ∨ i = 37 ∨ i = 38 ∨ i = 39 ∨ i = 40 ∨ i = 41 ∨ i = 42 := by omega
      clear hi
      rcases hcs with rfl | rfl | rfl | rfl | rfl | rfl | rfl | rfl | rfl | rfl | rfl | rfl | rfl | rfl | rfl | rfl | rfl | rfl | rfl | rfl | rfl | rfl | rfl | rfl | rfl | rfl | rfl | rfl | rfl | rfl | rfl | rfl | rfl | rfl | rfl | rfl | rfl | rfl | rfl | rfl | rfl | rfl | rfl
      · exact wpOp_of rfl rfl (wp_val_of (some 14) rfl (.slice A2 b.length c2) (by kernel_rfl) (hK _ _ rfl (Nx.refl _)))
      · have e0 : x 0 = .slice A2 b.length c2 := hd 0 (by decide)
        generalize x 0 = y0 at e0 hK ⊢
        subst e0
        refine wpOp_of rfl rfl (wp_call_of (some 15) rfl 9 #[(.slice A2 b.length c2)] (by kernel_rfl) (.agg (hcel H1)) ?_ (fun w' h => hK _ w' rfl h))
        exact HS1.out wr _ (N3.out.trans hx) ((Rb.out.nx N3.out).nx hx)
      · exact wpOp_of rfl rfl (wp_val_of (some 16) rfl (.pointer (some ⟨g, 0, none⟩)) (by kernel_rfl) (hK _ _ rfl (Nx.refl _)))
      · exact wpOp_of rfl rfl (wp_val_of (some 17) rfl (.slice A2 b.length c2) (by kernel_rfl) (hK _ _ rfl (Nx.refl _)))
      · have e2 : x 2 = .pointer (some ⟨g, 0, none⟩) := hd 2 (by decide)
        have e3 : x 3 = .slice A2 b.length c2 := hd 3 (by decide)
        have e1 : x 1 = .agg (hcel H1) := hd 1 (by decide)
        generalize x 2 = y2 at e2 hK ⊢
        subst e2
        generalize x 3 = y3 at e3 hK ⊢
        subst e3
        generalize x 1 = y1 at e1 hK ⊢
        subst e1
        refine wpOp_of rfl rfl (wp_call_of (some 18) rfl 10 #[(.pointer (some ⟨g, 0, none⟩)), (.slice A2 b.length c2)] (by kernel_rfl) (.agg (hcel H1)) ?_ (fun w' h => hK _ w' rfl h))
        exact HS2.out wr _ (G3.out.nx hx) ((Rb.out.nx N3.out).nx hx)
      · have e1 : x 1 = .agg (hcel H1) := hd 1 (by decide)
        have e4 : x 4 = .agg (hcel H1) := hd 4 (by decide)
        generalize x 1 = y1 at e1 hK ⊢
        subst e1
        generalize x 4 = y4 at e4 hK ⊢
        subst e4
        exact wpOp_of rfl rfl (wp_eql_of (some 19) rfl 24 _ _ _ rfl (hcel H1) (hcel H1) rfl rfl (by kernel_rfl) true (EQ1.out wr) (hK _ _ rfl (Nx.refl _)))
      · have e5 : x 5 = .bool true := hd 5 (by decide)
        have e4 : x 4 = .agg (hcel H1) := hd 4 (by decide)
        generalize x 5 = y5 at e5 hK ⊢
        subst e5
        generalize x 4 = y4 at e4 hK ⊢
        subst e4
        exact wpOp_of rfl rfl (wp_val_of (some 20) rfl (.bool true) (by kernel_rfl) (hK _ _ rfl (Nx.refl _)))
      · have e6 : x 6 = .bool true := hd 6 (by decide)
        generalize x 6 = y6 at e6 hK ⊢
        subst e6
        exact wpOp_g rfl (by rfl) (wp_val_of (some 21) rfl (.slice A2 b.length c2) (by kernel_rfl) (hK _ _ rfl (Nx.refl _)))
      · have e7 : x 7 = .slice A2 b.length c2 := hd 7 (by decide)
        have e6 : x 6 = .bool true := hd 6 (by decide)
        generalize x 7 = y7 at e7 hK ⊢
        subst e7
        generalize x 6 = y6 at e6 hK ⊢
        subst e6
        refine wpOp_g rfl (by rfl) (wp_call_of (some 22) rfl 11 #[(.slice A2 b.length c2)] (by kernel_rfl) (.agg (hcel H2)) ?_ (fun w' h => hK _ w' rfl h))
        exact HT1.out wr _ (N3.out.trans hx) ((Rb.out.nx N3.out).nx hx)
      · have e6 : x 6 = .bool true := hd 6 (by decide)
        generalize x 6 = y6 at e6 hK ⊢
        subst e6
        exact wpOp_g rfl (by rfl) (wp_val_of (some 23) rfl (.pointer (some ⟨g, 0, none⟩)) (by kernel_rfl) (hK _ _ rfl (Nx.refl _)))
      · have e6 : x 6 = .bool true := hd 6 (by decide)
        generalize x 6 = y6 at e6 hK ⊢
        subst e6
        exact wpOp_g rfl (by rfl) (wp_val_of (some 24) rfl (.slice A2 b.length c2) (by kernel_rfl) (hK _ _ rfl (Nx.refl _)))
      · have e9 : x 9 = .pointer (some ⟨g, 0, none⟩) := hd 9 (by decide)
        have e10 : x 10 = .slice A2 b.length c2 := hd 10 (by decide)
        have e8 : x 8 = .agg (hcel H2) := hd 8 (by decide)
        have e6 : x 6 = .bool true := hd 6 (by decide)
        generalize x 9 = y9 at e9 hK ⊢
        subst e9
        generalize x 10 = y10 at e10 hK ⊢
        subst e10
        generalize x 8 = y8 at e8 hK ⊢
        subst e8
        generalize x 6 = y6 at e6 hK ⊢
        subst e6
        refine wpOp_g rfl (by rfl) (wp_call_of (some 25) rfl 12 #[(.pointer (some ⟨g, 0, none⟩)), (.slice A2 b.length c2)] (by kernel_rfl) (.agg (hcel H2)) ?_ (fun w' h => hK _ w' rfl h))
        exact HT2.out wr _ (G3.out.nx hx) ((Rb.out.nx N3.out).nx hx)
      · have e8 : x 8 = .agg (hcel H2) := hd 8 (by decide)
        have e11 : x 11 = .agg (hcel H2) := hd 11 (by decide)
        have e6 : x 6 = .bool true := hd 6 (by decide)
        generalize x 8 = y8 at e8 hK ⊢
        subst e8
        generalize x 11 = y11 at e11 hK ⊢
        subst e11
        generalize x 6 = y6 at e6 hK ⊢
        subst e6
        exact wpOp_g rfl (by rfl) (wp_eql_of (some 26) rfl 24 _ _ _ rfl (hcel H2) (hcel H2) rfl rfl (by kernel_rfl) true (EQ2.out wr) (hK _ _ rfl (Nx.refl _)))
      · have e6 : x 6 = .bool true := hd 6 (by decide)
        have e12 : x 12 = .bool true := hd 12 (by decide)
        generalize x 6 = y6 at e6 hK ⊢
        subst e6
        generalize x 12 = y12 at e12 hK ⊢
        subst e12
        exact wpOp_of rfl rfl (wp_val_of (some 27) rfl (.bool true) (by kernel_rfl) (hK _ _ rfl (Nx.refl _)))
      · have e13 : x 13 = .bool true := hd 13 (by decide)
        have e11 : x 11 = .agg (hcel H2) := hd 11 (by decide)
        generalize x 13 = y13 at e13 hK ⊢
        subst e13
        generalize x 11 = y11 at e11 hK ⊢
        subst e11
        exact wpOp_of rfl rfl (wp_val_of (some 28) rfl (.bool true) (by kernel_rfl) (hK _ _ rfl (Nx.refl _)))
      · have e14 : x 14 = .bool true := hd 14 (by decide)
        generalize x 14 = y14 at e14 hK ⊢
        subst e14
        exact wpOp_g rfl (by rfl) (wp_val_of (some 29) rfl (.slice A2 b.length c2) (by kernel_rfl) (hK _ _ rfl (Nx.refl _)))
      · have e15 : x 15 = .slice A2 b.length c2 := hd 15 (by decide)
        have e14 : x 14 = .bool true := hd 14 (by decide)
        generalize x 15 = y15 at e15 hK ⊢
        subst e15
        generalize x 14 = y14 at e14 hK ⊢
        subst e14
        refine wpOp_g rfl (by rfl) (wp_call_of (some 30) rfl 13 #[(.slice A2 b.length c2)] (by kernel_rfl) (.agg (hcel H3)) ?_ (fun w' h => hK _ w' rfl h))
        exact HL1.out wr _ (N3.out.trans hx) ((Rb.out.nx N3.out).nx hx)
      · have e14 : x 14 = .bool true := hd 14 (by decide)
        generalize x 14 = y14 at e14 hK ⊢
        subst e14
        exact wpOp_g rfl (by rfl) (wp_val_of (some 31) rfl (.pointer (some ⟨g, 0, none⟩)) (by kernel_rfl) (hK _ _ rfl (Nx.refl _)))
      · have e14 : x 14 = .bool true := hd 14 (by decide)
        generalize x 14 = y14 at e14 hK ⊢
        subst e14
        exact wpOp_g rfl (by rfl) (wp_val_of (some 32) rfl (.slice A2 b.length c2) (by kernel_rfl) (hK _ _ rfl (Nx.refl _)))
      · have e17 : x 17 = .pointer (some ⟨g, 0, none⟩) := hd 17 (by decide)
        have e18 : x 18 = .slice A2 b.length c2 := hd 18 (by decide)
        have e16 : x 16 = .agg (hcel H3) := hd 16 (by decide)
        have e14 : x 14 = .bool true := hd 14 (by decide)
        generalize x 17 = y17 at e17 hK ⊢
        subst e17
        generalize x 18 = y18 at e18 hK ⊢
        subst e18
        generalize x 16 = y16 at e16 hK ⊢
        subst e16
        generalize x 14 = y14 at e14 hK ⊢
        subst e14
        refine wpOp_g rfl (by rfl) (wp_call_of (some 33) rfl 14 #[(.pointer (some ⟨g, 0, none⟩)), (.slice A2 b.length c2)] (by kernel_rfl) (.agg (hcel H3)) ?_ (fun w' h => hK _ w' rfl h))
        exact HL2.out wr _ (G3.out.nx hx) ((Rb.out.nx N3.out).nx hx)
      · have e16 : x 16 = .agg (hcel H3) := hd 16 (by decide)
        have e19 : x 19 = .agg (hcel H3) := hd 19 (by decide)
        have e14 : x 14 = .bool true := hd 14 (by decide)
        generalize x 16 = y16 at e16 hK ⊢
        subst e16
        generalize x 19 = y19 at e19 hK ⊢
        subst e19
        generalize x 14 = y14 at e14 hK ⊢
        subst e14
        exact wpOp_g rfl (by rfl) (wp_eql_of (some 34) rfl 24 _ _ _ rfl (hcel H3) (hcel H3) rfl rfl (by kernel_rfl) true (EQ3.out wr) (hK _ _ rfl (Nx.refl _)))
      · have e14 : x 14 = .bool true := hd 14 (by decide)
        have e20 : x 20 = .bool true := hd 20 (by decide)
        generalize x 14 = y14 at e14 hK ⊢
        subst e14
        generalize x 20 = y20 at e20 hK ⊢
        subst e20
        exact wpOp_of rfl rfl (wp_val_of (some 35) rfl (.bool true) (by kernel_rfl) (hK _ _ rfl (Nx.refl _)))
      · have e21 : x 21 = .bool true := hd 21 (by decide)
        have e19 : x 19 = .agg (hcel H3) := hd 19 (by decide)
        generalize x 21 = y21 at e21 hK ⊢
        subst e21
        generalize x 19 = y19 at e19 hK ⊢
        subst e19
        exact wpOp_of rfl rfl (wp_val_of (some 36) rfl (.bool true) (by kernel_rfl) (hK _ _ rfl (Nx.refl _)))
      · have e22 : x 22 = .bool true := hd 22 (by decide)
        generalize x 22 = y22 at e22 hK ⊢
        subst e22
        exact wpOp_g rfl (by rfl) (wp_load_row_of (some 37) rfl 24 (.tmp 4) rfl (w.heap.size) rfl 24 (hcel s) _ (RX.nx hx) Tryd.underlying24 rfl ix.out (hK _ _ rfl (Nx.refl _)))
      · have e22 : x 22 = .bool true := hd 22 (by decide)
        generalize x 22 = y22 at e22 hK ⊢
        subst e22
        exact wpOp_g rfl (by rfl) (wp_load_row_of (some 38) rfl 24 (.tmp 5) rfl (w.heap.size + 1) rfl 24 (hcel t) _ (RY.nx hx) Tryd.underlying24 rfl iy.out (hK _ _ rfl (Nx.refl _)))
      · have e23 : x 23 = .agg (hcel s) := hd 23 (by decide)
        have e24 : x 24 = .agg (hcel t) := hd 24 (by decide)
        have e22 : x 22 = .bool true := hd 22 (by decide)
        generalize x 23 = y23 at e23 hK ⊢
        subst e23
        generalize x 24 = y24 at e24 hK ⊢
        subst e24
        generalize x 22 = y22 at e22 hK ⊢
        subst e22
        refine wpOp_g rfl (by rfl) (wp_call_of (some 39) rfl 15 #[(.agg (hcel s)), (.agg (hcel t))] (by kernel_rfl) (.agg (hcel H4)) ?_ (fun w' h => hK _ w' rfl h))
        exact HP1.out wr (N3.out.trans hx)
      · have e22 : x 22 = .bool true := hd 22 (by decide)
        generalize x 22 = y22 at e22 hK ⊢
        subst e22
        exact wpOp_g rfl (by rfl) (wp_val_of (some 40) rfl (.pointer (some ⟨g, 0, none⟩)) (by kernel_rfl) (hK _ _ rfl (Nx.refl _)))
      · have e22 : x 22 = .bool true := hd 22 (by decide)
        generalize x 22 = y22 at e22 hK ⊢
        subst e22
        exact wpOp_g rfl (by rfl) (wp_load_row_of (some 41) rfl 24 (.tmp 4) rfl (w.heap.size) rfl 24 (hcel s) _ (RX.nx hx) Tryd.underlying24 rfl ix.out (hK _ _ rfl (Nx.refl _)))
      · have e22 : x 22 = .bool true := hd 22 (by decide)
        generalize x 22 = y22 at e22 hK ⊢
        subst e22
        exact wpOp_g rfl (by rfl) (wp_load_row_of (some 42) rfl 24 (.tmp 5) rfl (w.heap.size + 1) rfl 24 (hcel t) _ (RY.nx hx) Tryd.underlying24 rfl iy.out (hK _ _ rfl (Nx.refl _)))
      · have e26 : x 26 = .pointer (some ⟨g, 0, none⟩) := hd 26 (by decide)
        have e27 : x 27 = .agg (hcel s) := hd 27 (by decide)
        have e28 : x 28 = .agg (hcel t) := hd 28 (by decide)
        have e25 : x 25 = .agg (hcel H4) := hd 25 (by decide)
        have e22 : x 22 = .bool true := hd 22 (by decide)
        generalize x 26 = y26 at e26 hK ⊢
        subst e26
        generalize x 27 = y27 at e27 hK ⊢
        subst e27
        generalize x 28 = y28 at e28 hK ⊢
        subst e28
        generalize x 25 = y25 at e25 hK ⊢
        subst e25
        generalize x 22 = y22 at e22 hK ⊢
        subst e22
        refine wpOp_g rfl (by rfl) (wp_call_of (some 43) rfl 16 #[(.pointer (some ⟨g, 0, none⟩)), (.agg (hcel s)), (.agg (hcel t))] (by kernel_rfl) (.agg (hcel H4)) ?_ (fun w' h => hK _ w' rfl h))
        exact HP2.out wr (G3.out.nx hx)
      · have e25 : x 25 = .agg (hcel H4) := hd 25 (by decide)
        have e29 : x 29 = .agg (hcel H4) := hd 29 (by decide)
        have e22 : x 22 = .bool true := hd 22 (by decide)
        generalize x 25 = y25 at e25 hK ⊢
        subst e25
        generalize x 29 = y29 at e29 hK ⊢
        subst e29
        generalize x 22 = y22 at e22 hK ⊢
        subst e22
        exact wpOp_g rfl (by rfl) (wp_eql_of (some 44) rfl 24 _ _ _ rfl (hcel H4) (hcel H4) rfl rfl (by kernel_rfl) true (EQ4.out wr) (hK _ _ rfl (Nx.refl _)))
      · have e22 : x 22 = .bool true := hd 22 (by decide)
        have e30 : x 30 = .bool true := hd 30 (by decide)
        generalize x 22 = y22 at e22 hK ⊢
        subst e22
        generalize x 30 = y30 at e30 hK ⊢
        subst e30
        exact wpOp_of rfl rfl (wp_val_of (some 45) rfl (.bool true) (by kernel_rfl) (hK _ _ rfl (Nx.refl _)))
      · have e31 : x 31 = .bool true := hd 31 (by decide)
        have e29 : x 29 = .agg (hcel H4) := hd 29 (by decide)
        generalize x 31 = y31 at e31 hK ⊢
        subst e31
        generalize x 29 = y29 at e29 hK ⊢
        subst e29
        exact wpOp_of rfl rfl (wp_val_of (some 46) rfl (.bool true) (by kernel_rfl) (hK _ _ rfl (Nx.refl _)))
      · have e32 : x 32 = .bool true := hd 32 (by decide)
        generalize x 32 = y32 at e32 hK ⊢
        subst e32
        exact wpOp_g rfl (by rfl) (wp_val_of (some 47) rfl (.slice A2 b.length c2) (by kernel_rfl) (hK _ _ rfl (Nx.refl _)))
      · have e33 : x 33 = .slice A2 b.length c2 := hd 33 (by decide)
        have e32 : x 32 = .bool true := hd 32 (by decide)
        generalize x 33 = y33 at e33 hK ⊢
        subst e33
        generalize x 32 = y32 at e32 hK ⊢
        subst e32
        refine wpOp_g rfl (by rfl) (wp_callp_of (some 48) rfl 18 #[(.slice A2 b.length c2)] (by kernel_rfl) (fun v w' => Rd w' v (p)) ?_ hK)
        exact (HPD.out wr _ ((Rb.out.nx N3.out).nx hx)).mono fun _ _ ⟨v, h1, h2, h3⟩ => ⟨v, h1, h2.rd, h3⟩
      · have e32 : x 32 = .bool true := hd 32 (by decide)
        generalize x 32 = y32 at e32 hK ⊢
        subst e32
        exact wpOp_g rfl (by rfl) (wp_val_of (some 49) rfl (.slice A2 b.length c2) (by kernel_rfl) (hK _ _ rfl (Nx.refl _)))
      · have e35 : x 35 = .slice A2 b.length c2 := hd 35 (by decide)
        have r34 : Rd wr (x 34) (p) := hd 34 (by decide)
        have e32 : x 32 = .bool true := hd 32 (by decide)
        generalize x 35 = y35 at e35 hK ⊢
        subst e35
        generalize x 32 = y32 at e32 hK ⊢
        subst e32
        refine wpOp_g rfl (by rfl) (wp_callp_of (some 50) rfl 19 #[(.slice A2 b.length c2)] (by kernel_rfl) (fun v w' => Rd w' v (p)) ?_ hK)
        exact (HRP.out wr _ ((Rb.out.nx N3.out).nx hx)).mono fun _ _ ⟨v, h1, h2, h3⟩ => ⟨v, h1, h2.rd, h3⟩
      · have r34 : Rd wr (x 34) (p) := hd 34 (by decide)
        have r36 : Rd wr (x 36) (p) := hd 36 (by decide)
        have e32 : x 32 = .bool true := hd 32 (by decide)
        generalize x 32 = y32 at e32 hK ⊢
        subst e32
        refine wpOp_g rfl (by rfl) (wp_call_of (some 51) rfl 17 #[x 34, x 36] (by kernel_rfl) (.bool true) ?_ (fun w' h => hK _ w' rfl h))
        exact same_yes _ _ p wr r34 r36
      · have e32 : x 32 = .bool true := hd 32 (by decide)
        have e37 : x 37 = .bool true := hd 37 (by decide)
        generalize x 32 = y32 at e32 hK ⊢
        subst e32
        generalize x 37 = y37 at e37 hK ⊢
        subst e37
        exact wpOp_of rfl rfl (wp_val_of (some 52) rfl (.bool true) (by kernel_rfl) (hK _ _ rfl (Nx.refl _)))
      · have e38 : x 38 = .bool true := hd 38 (by decide)
        have e37 : x 37 = .bool true := hd 37 (by decide)
        generalize x 38 = y38 at e38 hK ⊢
        subst e38
        generalize x 37 = y37 at e37 hK ⊢
        subst e37
        exact wpOp_of rfl rfl (wp_val_of (some 53) rfl (.bool true) (by kernel_rfl) (hK _ _ rfl (Nx.refl _)))
      · have e39 : x 39 = .bool true := hd 39 (by decide)
        generalize x 39 = y39 at e39 hK ⊢
        subst e39
        refine wpOp_g rfl (by rfl) (wp_call_of (some 54) rfl 20 #[] (by kernel_rfl) (.bool true) ?_ (fun w' h => hK _ w' rfl h))
        exact HW.out wr (N3.out.trans hx)
      · have e39 : x 39 = .bool true := hd 39 (by decide)
        have e40 : x 40 = .bool true := hd 40 (by decide)
        generalize x 39 = y39 at e39 hK ⊢
        subst e39
        generalize x 40 = y40 at e40 hK ⊢
        subst e40
        exact wpOp_of rfl rfl (wp_val_of (some 55) rfl (.bool true) (by kernel_rfl) (hK _ _ rfl (Nx.refl _)))
      · have e41 : x 41 = .bool true := hd 41 (by decide)
        generalize x 41 = y41 at e41 hK ⊢
        subst e41
        exact wpOp_of rfl rfl (wp_val_of (some 6) rfl (.bool true) (by kernel_rfl) (hK _ _ rfl (Nx.refl _)))
    · intro x tm wr htm hx hv
      simp only [fillA, List.setIfInBounds_toArray, List.set_cons_zero, List.set_cons_succ] at htm
      subst htm
      have e42 : x 42 = .bool true := hv 42 (by decide)
      rw [e42]
      refine wpList_nil ?_
      go_wp2_with fail
      go_ret
      exact ⟨rfl, (N0.out.trans N3.out).trans hx⟩
end Go.Proofs.YtpgdfboogjapeaaDoor
