/- LAYER 13: the document's Open, and what compares hashes. -/
import Derived.Test.YtpkopigiijiiiaaDoorLm9
namespace Go.Proofs.YtpkopigiijiiiaaDoor
open Go Go.RowKit
set_option linter.unusedVariables false
set_option linter.unusedSimpArgs false
set_option linter.unusedVariables false
set_option linter.unusedSimpArgs false

theorem RdE.h32 {w : World} {v : Value} {l : Hs} (h : RdE elH w v l) : H32 l := by obtain ⟨_, _, _, _, _, h, _⟩ := h.h_parts; exact h
set_option maxRecDepth 100000 in
set_option maxHeartbeats 4000000 in
theorem hashes_any (v1 v2 : Value) (l1 l2 : Hs) (w : World) (r1 : RdE elH w v1 l1) (r2 : RdE elH w v2 l2) (hb : l1.length ≤ 1000000) :
    Calls Tryd.prog 22 #[v1, v2] w fun e w' => e = .returned (.bool (decide (l1 = l2))) ∧ Nx w w' := by
  have H1 := Lib.hid r1.h32
  have H2 := Lib.hid r2.h32
  obtain ⟨A1, c1, rfl, -, -, -, hq1⟩ := r1.h_parts
  obtain ⟨A2, c2, rfl, -, -, -, hq2⟩ := r2.h_parts
  clear r1 r2
  by_cases hl : l1.length = l2.length
  · rw [← hl]
    have HG : Hid (∀ k, k < l1.length → ∃ b1 o1 b2 o2, A1 = some ⟨b1, o1, none⟩ ∧ A2 = some ⟨b2, o2, none⟩ ∧ b1 < w.heap.size ∧ b2 < w.heap.size ∧ (∀ i u, (hcel (l1.getD k []))[i]? = some u → w.cell? ⟨b1, o1 + k * 32 + i, none⟩ = some u) ∧ (∀ i u, (hcel (l2.getD k []))[i]? = some u → w.cell? ⟨b2, o2 + k * 32 + i, none⟩ = some u)) := Lib.hid fun k hk => by
      obtain ⟨b1, o1, e1, hb1, hc1⟩ := hq1 (by omega)
      obtain ⟨b2, o2, e2, hb2, hc2⟩ := hq2 (by omega)
      exact ⟨b1, o1, b2, o2, e1, e2, hb1, hb2, fun i u hu => getD_cells hc1 k hk i u hu, fun i u hu => getD_cells hc2 k (by omega) i u hu⟩
    have HEQ : Hid (∀ k, k < l1.length → ((l1.take k = l2.take k ∧ l1.getD k [] = l2.getD k []) ↔ l1.take (k + 1) = l2.take (k + 1))) := Lib.hid fun k hk => by
      rw [List.take_succ_eq_append_getElem hk, List.take_succ_eq_append_getElem (show k < l2.length by omega), List.getD_eq_getElem?_getD, List.getD_eq_getElem?_getD, List.getElem?_eq_getElem hk, List.getElem?_eq_getElem (show k < l2.length by omega)]
      constructor
      · rintro ⟨h1, h2⟩
        rw [h1]
        have : l1[k] = l2[k] := h2
        rw [this]
      · intro h
        have hl1 : (l1.take k).length = (l2.take k).length := by rw [List.length_take, List.length_take]; omega
        obtain ⟨h1, h2⟩ := List.append_inj h hl1
        exact ⟨h1, by simpa using h2⟩
    have HNE : Hid (∀ k, k < l1.length → l1.getD k [] ≠ l2.getD k [] → decide (l1 = l2) = false) := Lib.hid fun k hk h => by
      simp only [decide_eq_false_iff_not]
      rintro rfl
      exact h rfl
    have HAL : Hid (l1.take l1.length = l2.take l1.length → decide (l1 = l2) = true) := Lib.hid fun h => by
      rw [List.take_of_length_le (Nat.le_refl _), List.take_of_length_le (by omega)] at h
      simp [h]
    have HL1 := Lib.hid (fun k (hk : k < l1.length) => H1.out.getD hk)
    have HL2 : Hid (∀ k, k < l1.length → (l2.getD k []).length = 32) := Lib.hid (fun k (hk : k < l1.length) => H2.out.getD (by omega))
    have hbi : (l1.length : Int) ≤ 1000000 := by omega
    clear hq1 hq2 hl hb H1 H2
    generalize hD : decide (l1 = l2) = D at *
    clear hD
    generalize l1.length = n at *
    have hne : ((n : Int) != (n : Int)) = false := by simp
    go_enter Tryd.func22, Tryd.ntmps22
    go_wp2_with fail
    go_loopw [5] (fun i wr => ∃ k : Nat, i = .int .i64 (k : Int) ∧ Hid (k ≤ n) ∧ Hid (l1.take k = l2.take k) ∧ Hid (Nx w wr)) (fun i _ => n - (intOf i).toNat)
    case atStart => exact ⟨0, rfl, Lib.hid (Nat.zero_le _), Lib.hid (by rw [List.take_zero, List.take_zero]), Lib.hid (Nx.refl w)⟩
    case round =>
      obtain ⟨k, rfl, hk, HT, HN⟩ := hrel
      by_cases hlt : k < n
      · have hlti : (k : Int) < (n : Int) := by omega
        obtain ⟨b1, o1, b2, o2, rfl, rfl, hb1, hb2, hc1, hc2⟩ := HG.out k hlt
        have C1 : Hid (∀ wr', Nx w wr' → ∀ i u, (hcel (l1.getD k []))[i]? = some u → wr'.cell? ⟨b1, o1 + k * 32 + i, none⟩ = some u) := Lib.hid fun wr' hx i u hu => (hx.cell (p := ⟨b1, o1 + k * 32 + i, none⟩) hb1).trans (hc1 i u hu)
        have C2 : Hid (∀ wr', Nx w wr' → ∀ i u, (hcel (l2.getD k []))[i]? = some u → wr'.cell? ⟨b2, o2 + k * 32 + i, none⟩ = some u) := Lib.hid fun wr' hx i u hu => (hx.cell (p := ⟨b2, o2 + k * 32 + i, none⟩) hb2).trans (hc2 i u hu)
        have L1 := Lib.hid (HL1.out k hlt)
        have L2 := Lib.hid (HL2.out k hlt)
        have HQ := Lib.hid (HEQ.out k hlt)
        have HQN := Lib.hid (HNE.out k hlt)
        clear hc1 hc2 hb1 hb2
        generalize l1.getD k [] = h1 at *
        generalize l2.getD k [] = h2 at *
        have Z1 := Lib.hid (hashsz h1 L1.out)
        have Z2 := Lib.hid (hashsz h2 L2.out)
        have EQ := Lib.hid (fun w => eq_hash2 h1 h2 L1.out L2.out w)
        replace hlt := Lib.hid hlt
        go_wp2_with fail
        refine wp_region_nx 9 [[], [], [0, 1], [2], [], [], [4, 5], [6], [3, 7]] [some 17, some 18, some 19, some 20, some 21, some 22, some 23, some 24, some 25]
          [.eq (.slice (some ⟨b1, o1, none⟩) n c1), .eq (.int .i64 (k : Int)), .eq (.pointer (some ⟨b1, o1 + k * 32, none⟩)), .eq (.agg (hcel h1)), .eq (.slice (some ⟨b2, o2, none⟩) n c2), .eq (.int .i64 (k : Int)), .eq (.pointer (some ⟨b2, o2 + k * 32, none⟩)), .eq (.agg (hcel h2)), .eq (.bool (!decide (h1 = h2)))]
          (by kernel_rfl) (by kernel_rfl) (hord_of (by decide)) (by kernel_rfl) (by decide) (by decide) (htail_of (by decide)) ?_ _ (by rfl) ?_
        · intro x tm wr htm hx i hi hd K hK
          simp only [fillA, List.setIfInBounds_toArray, List.set_cons_zero, List.set_cons_succ] at htm
          subst htm
          have hcs : i = 0 ∨ i = 1 ∨ i = 2 ∨ i = 3 ∨ i = 4 ∨ i = 5 ∨ i = 6 ∨ i = 7 ∨ i = 8 := by omega
          clear hi
          rcases hcs with rfl | rfl | rfl | rfl | rfl | rfl | rfl | rfl | rfl
          · exact wpOp_of rfl rfl (wp_val_of (some 17) rfl (.slice (some ⟨b1, o1, none⟩) n c1) (by kernel_rfl) (hK _ _ rfl (Nx.refl _)))
          · exact wpOp_of rfl rfl (wp_val_of (some 18) rfl (.int .i64 (k : Int)) (by kernel_rfl) (hK _ _ rfl (Nx.refl _)))
          · have e0 : x 0 = .slice (some ⟨b1, o1, none⟩) n c1 := hd 0 (by decide)
            have e1 : x 1 = .int .i64 (k : Int) := hd 1 (by decide)
            generalize x 0 = y0 at e0 hK ⊢
            subst e0
            generalize x 1 = y1 at e1 hK ⊢
            subst e1
            exact wpOp_of rfl rfl (wp_ix_of (some 19) rfl 32 23 (.tmp 17) (.tmp 18) rfl Tryd.underlying32 32 Tryd.sizeOf23 b1 o1 n c1 k (k : Int) rfl rfl rfl hlt.out (hK _ _ rfl (Nx.refl _)))
          · have e2 : x 2 = .pointer (some ⟨b1, o1 + k * 32, none⟩) := hd 2 (by decide)
            generalize x 2 = y2 at e2 hK ⊢
            subst e2
            exact wpOp_of rfl rfl (wp_load_at (some 20) rfl 23 (.tmp 19) rfl b1 (o1 + k * 32) rfl (hcel h1) _ (C1.out wr (HN.out.trans hx)) Tryd.underlying23 rfl Z1.out (hK _ _ rfl (Nx.refl _)))
          · exact wpOp_of rfl rfl (wp_val_of (some 21) rfl (.slice (some ⟨b2, o2, none⟩) n c2) (by kernel_rfl) (hK _ _ rfl (Nx.refl _)))
          · exact wpOp_of rfl rfl (wp_val_of (some 22) rfl (.int .i64 (k : Int)) (by kernel_rfl) (hK _ _ rfl (Nx.refl _)))
          · have e4 : x 4 = .slice (some ⟨b2, o2, none⟩) n c2 := hd 4 (by decide)
            have e5 : x 5 = .int .i64 (k : Int) := hd 5 (by decide)
            generalize x 4 = y4 at e4 hK ⊢
            subst e4
            generalize x 5 = y5 at e5 hK ⊢
            subst e5
            exact wpOp_of rfl rfl (wp_ix_of (some 23) rfl 32 23 (.tmp 21) (.tmp 22) rfl Tryd.underlying32 32 Tryd.sizeOf23 b2 o2 n c2 k (k : Int) rfl rfl rfl hlt.out (hK _ _ rfl (Nx.refl _)))
          · have e6 : x 6 = .pointer (some ⟨b2, o2 + k * 32, none⟩) := hd 6 (by decide)
            generalize x 6 = y6 at e6 hK ⊢
            subst e6
            exact wpOp_of rfl rfl (wp_load_at (some 24) rfl 23 (.tmp 23) rfl b2 (o2 + k * 32) rfl (hcel h2) _ (C2.out wr (HN.out.trans hx)) Tryd.underlying23 rfl Z2.out (hK _ _ rfl (Nx.refl _)))
          · have e3 : x 3 = .agg (hcel h1) := hd 3 (by decide)
            have e7 : x 7 = .agg (hcel h2) := hd 7 (by decide)
            generalize x 3 = y3 at e3 hK ⊢
            subst e3
            generalize x 7 = y7 at e7 hK ⊢
            subst e7
            exact wpOp_of rfl rfl (wp_neq13 (some 25) rfl 23 _ _ _ rfl (hcel h1) (hcel h2) rfl rfl (by kernel_rfl) (decide (h1 = h2)) (EQ.out wr) (hK _ _ rfl (Nx.refl _)))
        · intro x tm wr htm hx hv
          simp only [fillA, List.setIfInBounds_toArray, List.set_cons_zero, List.set_cons_succ] at htm
          subst htm
          have e8 : x 8 = .bool (!decide (h1 = h2)) := hv 8 (by decide)
          rw [e8]
          refine wpList_nil ?_
          have NQ := Lib.hid (HN.out.trans hx)
          clear hv C1 C2
          by_cases hh : h1 = h2
          · have hd : decide (h1 = h2) = true := by simp [hh]
            have HT2 := Lib.hid (HQ.out.1 ⟨HT.out, hh⟩)
            rw [hd]
            clear hh hd
            go_wp2_with fail
            go_roundw
            case rel => exact ⟨k + 1, by go_num, Lib.hid (by have := hlt.out; omega), HT2, NQ⟩
            case measure => have := hlt.out; simp [intOf]; omega
          · have hd : decide (h1 = h2) = false := by simp [hh]
            have hD := Lib.hid (HQN.out hh)
            rw [hd]
            clear hh hd
            go_wp2_with fail
            go_ret
            exact ⟨by rw [hD.out]; rfl, NQ.out⟩
      · have hkn : k = n := by have := hk.out; omega
        subst hkn
        have hD := Lib.hid (HAL.out HT.out)
        clear hlt
        go_wp2_with fail
        go_ret
        exact ⟨by rw [hD.out]; rfl, HN.out⟩
  · have hne : ((l1.length : Int) != (l2.length : Int)) = true := by simp; omega
    have hD : Hid (decide (l1 = l2) = false) := Lib.hid (by simp; rintro rfl; exact hl rfl)
    generalize decide (l1 = l2) = D at *
    clear hq1 hq2 hl hb H1 H2
    generalize l1.length = n1 at *
    generalize l2.length = n2 at *
    go_enter Tryd.func22, Tryd.ntmps22
    go_wp2_with fail
    go_ret
    exact ⟨by rw [hD.out]; rfl, Nx.refl w⟩


set_option maxRecDepth 100000 in
set_option maxHeartbeats 4000000 in
theorem rhash_any (vb : Value) (l : Bs) (w : World) (hr : Rd w vb l) (hl : l.length = 32) :
    Calls Tryd.prog 30 #[vb] w fun e w' => e = .returned (.agg (hcel l)) ∧ Nx w w' := by
  have HL := Lib.hid hl
  have HZL : Hid ((List.replicate 32 (0 : UInt8)).length = 32) := Lib.hid List.length_replicate
  obtain ⟨hz, hzs⟩ := zero_of_info info_hash'
  obtain ⟨A, c, rfl, hc, hm, ha⟩ := hr
  obtain ⟨b, q, rfl, hb, hcell⟩ := ha (by omega)
  have HCL : Hid (∀ W, Nx w W → ∀ j (h : j < l.length), W.cell? ⟨b, q + j, none⟩ = some (bv l[j])) := Lib.hid fun W h j hj => by
    rw [h.cell (p := ⟨b, q + j, none⟩) hb]; exact hcell j hj
  have HTS0 : ∀ k (hk : k < 32), (l.take k ++ List.replicate (32 - k) 0).set k (l[k]'(by omega)) = l.take (k + 1) ++ List.replicate (32 - (k + 1)) 0 := fun k hk => by
    rw [List.take_succ_eq_append_getElem (by omega), List.set_append_right _ _ (by rw [List.length_take]; omega), show k - (l.take k).length = 0 by rw [List.length_take]; omega, show 32 - k = (32 - (k + 1)) + 1 by omega, List.replicate_succ, List.set_cons_zero, List.append_assoc]
    rfl
  obtain ⟨P, hP⟩ : ∃ P : Nat → Bs, ∀ k, P k = l.take k ++ List.replicate (32 - k) 0 := ⟨_, fun _ => rfl⟩
  have HTL : Hid (∀ k, k ≤ 32 → (P k).length = 32) := Lib.hid fun k hk => by rw [hP, List.length_append, List.length_take, List.length_replicate]; omega
  have HTS : Hid (∀ k (hk : k < 32), (P k).set k (l[k]'(by omega)) = P (k + 1)) := Lib.hid fun k hk => by rw [hP, hP]; exact HTS0 k hk
  have HPE : Hid (P 32 = l) := Lib.hid (by rw [hP, List.take_of_length_le (by omega)]; simp)
  have HP0 : Hid (P 0 = List.replicate 32 0) := Lib.hid (by rw [hP]; rfl)
  clear hP HTS0
  rw [hl] at hc ⊢
  have z1 := Lib.hid (hashsz l hl)
  have zo := Lib.hid (hashsame (List.replicate 32 0) l HZL.out hl)
  clear ha hcell
  have R1 := (Row.new w (hcel (List.replicate 32 0)) 23 _ rfl).alloc (.cells (hcel (List.replicate 32 0)) 23)
  have R2' := Row.new2 w (.cells (hcel (List.replicate 32 0)) 23) (hcel (List.replicate 32 0)) 23
  have N0 := Lib.hid (((Nx.refl w).alloc (.cells (hcel (List.replicate 32 0)) 23)).alloc (.cells (hcel (List.replicate 32 0)) 23))
  have HR2 : Row ((w.alloc (.cells (hcel (List.replicate 32 0)) 23)).alloc (.cells (hcel (List.replicate 32 0)) 23)) (w.heap.size + 1) (hcel (P 0)) 23 := by rw [HP0.out]; exact R2'
  clear R2'
  generalize hZZ : List.replicate 32 (0 : UInt8) = Z at *
  clear hZZ
  go_enter Tryd.func30, Tryd.ntmps30
  go_wp2_with fail
  generalize (w.alloc (.cells (hcel Z) 23)).alloc (.cells (hcel Z) 23) = W0 at *
  go_loopw [4] (fun i wr => ∃ k : Nat, k ≤ 32 ∧ i = .int .i64 (k : Int) ∧ Hid (Nx w wr) ∧ Row wr w.heap.size (hcel Z) 23 ∧ Row wr (w.heap.size + 1) (hcel (P k)) 23) (fun i _ => 32 - (intOf i).toNat)
  case atStart => exact ⟨0, Nat.zero_le _, rfl, N0, R1, HR2⟩
  case round =>
    clear N0 R1 HR2 HP0
    obtain ⟨k, hk, rfl, HN, R1, R2⟩ := hrel
    by_cases hlt : k < 32
    · have hlti : (k : Int) < 32 := by omega
      have hkl : k < l.length := by rw [HL.out]; exact hlt
      have c1 := HCL.out wr HN.out k hkl
      have hT := HTL.out k hk
      have c2 := R2.cell (hcel_get (P k) k (by rw [hT]; exact hlt))
      have f2 := R2.frozen k
      have X2 := R2.set k (bv l[k])
      rw [hcel_set _ k l[k] (by rw [hT]; exact hlt), HTS.out k hlt] at X2
      have X1 := R1.other (w.heap.size + 1) k (bv l[k]) (by omega)
      have NS := Lib.hid (HN.out.setAt (k := w.heap.size + 1) (i := k) (bv l[k]) (by omega))
      generalize l[k] = x at *
      go_wp2_with fail
      go_roundw
      case rel => exact ⟨k + 1, by omega, by go_num, NS, X1, X2⟩
      case measure => simp [intOf]; omega
    · obtain rfl : k = 32 := by omega
      rw [HPE.out] at R2
      have hl1 : w.heap.size ≤ w.heap.size := Nat.le_refl _
      go_wp2_with (first | (refine wpList_load_row rfl 23 (.tmp 3) rfl (w.heap.size + 1) rfl 23 (hcel l) (0, 0) _ R2 Tryd.underlying23 rfl z1.out ?_) | (refine wpList_store_row rfl 23 (.tmp 2) (.tmp 21) rfl w.heap.size (hcel l) rfl rfl 23 (hcel Z) R1 z1.out zo.out (hcel_one _) ?_))
      exact bodyPost_ret (results_cell_row Tryd.results30 _ _ w.heap.size 23 (hcel l) (0, 0) _ rfl (R1.setRow _) Tryd.underlying23 rfl z1.out) rfl ⟨rfl, HN.out.setRow _ hl1⟩
end Go.Proofs.YtpkopigiijiiiaaDoor
