/- LAYER 8: Mine of the document. -/
import Derived.Test.YtjbeemoobmagnaaDoorHead10
namespace Go.Proofs.YtjbeemoobmagnaaDoor
open Go Go.RowKit
set_option linter.unusedVariables false
set_option linter.unusedSimpArgs false
set_option linter.unusedVariables false
set_option linter.unusedSimpArgs false

theorem hasSet {w : World} {g : Nat} (h : Has w g) (k i : Nat) (v : Value) (hk : g ≠ k) : Has (w.setCell ⟨k, i, none⟩ v) g := Row.other h k i v hk
theorem nth32_zero {n : Nat} (h : n < 4294967296) : (nth32 n 0).1 = n := by show (n + 0) % 4294967296 = n; omega
theorem nth32_next (n k : Nat) : IntKind.u32.wrap (((nth32 n k).1 : Int) + 1) = ((nth32 n (k + 1)).1 : Int) := by
  rw [IntKind.wrap_u32]
  show ((((n + k) % 4294967296 : Nat) : Int) + 1) % 4294967296 = (((n + (k + 1)) % 4294967296 : Nat) : Int)
  omega
set_option maxRecDepth 100000 in
set_option maxHeartbeats 4000000 in
theorem rmine_ok (p r : List UInt8) (t b n m : Nat) (H : HOk p r t b n) (hE : ofE b = 0) (hm : m < 4294967296) (w : World) :
    Calls Tryd.prog 30 #[.agg (hdc p r t b n), .int .u32 (m : Int)] w fun e w' => e = .returned (mineR p r t b n m) ∧ Nx w w' := by
  obtain ⟨MR, hMR⟩ : ∃ MR, mineR p r t b n m = MR := ⟨_, rfl⟩
  rw [hMR]
  replace hMR := Lib.hid hMR
  have HO := Lib.hid (fun w => refTOf_any b w (by have := H.b; omega))
  obtain ⟨hz2, hzs2⟩ := zero_of_info info_head
  have cz := Lib.hid (headsz Z32 Z32 0 0 0 Z32_length Z32_length)
  have RB := ((Row.new w (hdc p r t b n) 32 _ rfl).alloc (.cells (hdc Z32 Z32 0 0 0) 32)).cell (hd_b p r t b n H.p H.r)
  have HH := Lib.hid H
  have R2 := (Row.new w (hdc p r t b n) 32 _ rfl).alloc (.cells (hdc Z32 Z32 0 0 0) 32)
  have R4 := Row.new2 w (.cells (hdc p r t b n) 32) (hdc Z32 Z32 0 0 0) 32
  have N0 := Lib.hid (((Nx.refl w).alloc (.cells (hdc p r t b n) 32)).alloc (.cells (hdc Z32 Z32 0 0 0) 32))
  have dE : (ofE b != 0) = false := by rw [hE]; rfl
  rw [hE] at HO
  have HMS := Lib.hid hm
  generalize ofT b = x at *
  clear H
  go_enter Tryd.func30, Tryd.ntmps30
  go_wp2_with fail
  refine (HO.out _).mono ?_
  rintro e w1 ⟨rfl, n1⟩
  have S2 := (R2.nx n1).alloc (.cells #[.int .u64 (lim x 0 : Int), .int .u64 (lim x 1 : Int), .int .u64 (lim x 2 : Int), .int .u64 (lim x 3 : Int)] 81)
  have S4 := (R4.nx n1).alloc (.cells #[.int .u64 (lim x 0 : Int), .int .u64 (lim x 1 : Int), .int .u64 (lim x 2 : Int), .int .u64 (lim x 3 : Int)] 81)
  have N1 := Lib.hid ((N0.out.trans n1).alloc (.cells #[.int .u64 (lim x 0 : Int), .int .u64 (lim x 1 : Int), .int .u64 (lim x 2 : Int), .int .u64 (lim x 3 : Int)] 81))
  clear n1 R2 R4 N0 RB
  go_wp2_with fail
  refine (new_any _).mono ?_
  rintro e w2 ⟨gh, rfl, hg1, hg2, n2⟩
  have T2 := Lib.hid (S2.nx n2)
  have T4 := Lib.hid (S4.nx n2)
  have TG := Lib.hid hg2
  have N2 := Lib.hid (N1.out.trans n2)
  have HGW : Hid (gh ≠ w.heap.size ∧ gh ≠ w.heap.size + 1) := Lib.hid (by have h1 := S2.lt; have h2 := S4.lt; omega)
  clear n2 S2 S4 N1 hg1 hg2
  go_wp2_with fail
  go_loopw [9] (fun i wr => ∃ k : Nat, i = .int .u32 (k : Int) ∧ Hid (k ≤ m) ∧ Hid (Row wr w.heap.size (hdc p r t b (nth32 n k).1) 32) ∧ Hid (Row wr (w.heap.size + 1) (hdc Z32 Z32 0 0 0) 32) ∧ Hid (Has wr gh) ∧ Hid (Nx w wr) ∧ Hid (∀ j, j < k → meN (hI p r t b (nth32 n j).1) b = false)) (fun i _ => m - (intOf i).toNat)
  case atStart => exact ⟨0, rfl, Lib.hid (Nat.zero_le _), Lib.hid (by rw [nth32_zero HH.out.n]; exact T2.out), T4, TG, N2, Lib.hid (fun j hj => by omega)⟩
  case round =>
    clear T2 T4 TG N2
    obtain ⟨k, rfl, hk, Q2, Q4, QG, HN, HF⟩ := hrel
    by_cases hlt : k < m
    · have hlti : (k : Int) < (m : Int) := by omega
      have hkw : IntKind.u32.wrap ((k : Int) + 1) = (k : Int) + 1 := by rw [IntKind.wrap_u32]; have := HMS.out; omega
      have hqn := nth32_next n k
      have HKM : Hid (mineK p r t b n m = some k ∨ meN (hI p r t b (nth32 n k).1) b = false) := Lib.hid (by
        cases hM : meN (hI p r t b (nth32 n k).1) b
        · exact .inr rfl
        · left
          unfold mineK
          rw [List.find?_range_eq_some]
          exact ⟨hM, List.mem_range.2 hlt, fun j hj => by rw [HF.out j hj]; rfl⟩)
      have HMM : Hid (meN (hI p r t b (nth32 n k).1) b = true → MR = .tuple #[.agg (hdc p r t b (nth32 n k).1), .int .i64 0]) := Lib.hid (fun hM => by
        rcases HKM.out with h | h
        · rw [← hMR.out]; unfold mineR; rw [h]
        · rw [hM] at h; cases h)
      have HFN : Hid (meN (hI p r t b (nth32 n k).1) b = false → ∀ j, j < k + 1 → meN (hI p r t b (nth32 n j).1) b = false) := Lib.hid fun hM j hj => by
        rcases Nat.lt_or_ge j k with h | h
        · exact HF.out j h
        · obtain rfl : j = k := by omega
          exact hM
      have HQY : HOk p r t b (nth32 n k).1 := ⟨HH.out.p, HH.out.r, HH.out.t, HH.out.b, (nth32 n k).2⟩
      have HQ2 : Hid (∀ W, Row W w.heap.size ((hdc p r t b (nth32 n k).1).setIfInBounds 66 (.int .u32 ((nth32 n (k + 1)).1 : Int))) 32 → Row W w.heap.size (hdc p r t b (nth32 n (k + 1)).1) 32) := Lib.hid fun W h => by rw [hd_setn p r t b _ _ HH.out.p HH.out.r] at h; exact h
      generalize hq : (nth32 n k).1 = q at *
      generalize hq2 : (nth32 n (k + 1)).1 = q2 at *
      replace hq2 := Lib.hid hq2
      clear hq HF HKM
      have HCB := Lib.hid (hd_b p r t b q HQY.p HQY.r)
      have HCN := Lib.hid (hd_n p r t b q HQY.p HQY.r)
      have hqz := Lib.hid (headsz p r t b q HQY.p HQY.r)
      have hqo := Lib.hid (show (hdc Z32 Z32 0 0 0).size = (hdc p r t b q).size by rw [hd_size _ _ _ _ _ Z32_length Z32_length, hd_size _ _ _ _ _ HQY.p HQY.r])
      have HP := Lib.hid (fun w => rhput_any p r t b q HQY w)
      have HTW : Hid (∀ W v, Has W gh → Rd W v (hdB p r t b q) → Calls Tryd.prog 65 #[.pointer (some ⟨gh, 0, none⟩), v] W fun e w' => e = .returned (.agg (hcel (hI p r t b q))) ∧ Nx W w') := Lib.hid fun W v hg hr => rtwice_any gh v _ W hg hr (by rw [hdB_length _ _ _ _ _ HQY.p HQY.r]; decide)
      have HM := Lib.hid (fun w => refTMeets_any (hI p r t b q) (shaL_length _) b (by have := HQY.b; omega) w)
      clear HQY
      generalize meN (hI p r t b q) b = M at *
      generalize hI p r t b q = I at *
      generalize hdB p r t b q = BT at *
      replace hlt := Lib.hid hlt
      go_wp2_with fail
      refine wp_region_nx 7 [[], [], [1], [0, 2, 2], [], [4], [3, 5, 3]] [some 25, some 26, some 27, some 28, some 29, some 30, some 31]
        [.eq (.pointer (some ⟨gh, 0, none⟩)), .eq (.agg (hdc p r t b q)), .rd (BT), .eq (.agg (hcel I)), .eq (.pointer (some ⟨w.heap.size, 65, none⟩)), .eq (.int .u32 (b : Int)), .eq (.bool M)]
        (by kernel_rfl) (by kernel_rfl) (hord_of (by decide)) (by kernel_rfl) (by decide) (by decide) (htail_of (by decide)) ?_ _ (by rfl) ?_
      · intro x tm wr htm hx i hi hd K hK
        simp only [fillA, List.setIfInBounds_toArray, List.set_cons_zero, List.set_cons_succ] at htm
        subst htm
        have hcs : i = 0 ∨ i = 1 ∨ i = 2 ∨ i = 3 ∨ i = 4 ∨ i = 5 ∨ i = 6 := by omega
        clear hi
        rcases hcs with rfl | rfl | rfl | rfl | rfl | rfl | rfl
        · exact wpOp_of rfl rfl (wp_val_of (some 25) rfl (.pointer (some ⟨gh, 0, none⟩)) (by kernel_rfl) (hK _ _ rfl (Nx.refl _)))
        · exact wpOp_of rfl rfl (wp_load_row_of (some 26) rfl 32 (.tmp 2) rfl (w.heap.size) rfl 32 (hdc p r t b q) _ (Q2.out.nx hx) Tryd.underlying32 rfl hqz.out (hK _ _ rfl (Nx.refl _)))
        · have e1 : x 1 = .agg (hdc p r t b q) := hd 1 (by decide)
          generalize x 1 = y1 at e1 hK ⊢
          subst e1
          refine wpOp_of rfl rfl (wp_callp_of (some 27) rfl 19 #[(.agg (hdc p r t b q))] (by kernel_rfl) (fun v w' => Rd w' v (BT)) ?_ hK)
          exact (HP.out wr).mono fun _ _ ⟨v, h1, h2, h3⟩ => ⟨v, h1, h2.rd, h3⟩
        · have e0 : x 0 = .pointer (some ⟨gh, 0, none⟩) := hd 0 (by decide)
          have r2 : Rd wr (x 2) (BT) := hd 2 (by decide)
          generalize x 0 = y0 at e0 hK ⊢
          subst e0
          refine wpOp_of rfl rfl (wp_call_of (some 28) rfl 65 #[(.pointer (some ⟨gh, 0, none⟩)), x 2] (by kernel_rfl) (.agg (hcel I)) ?_ (fun w' h => hK _ w' rfl h))
          exact HTW.out _ _ (QG.out.nx hx) r2
        · exact wpOp_of rfl rfl (wp_val_of (some 29) rfl (.pointer (some ⟨w.heap.size, 65, none⟩)) (by kernel_rfl) (hK _ _ rfl (Nx.refl _)))
        · have e4 : x 4 = .pointer (some ⟨w.heap.size, 65, none⟩) := hd 4 (by decide)
          generalize x 4 = y4 at e4 hK ⊢
          subst e4
          exact wpOp_of rfl rfl (wp_load_cell (some 30) rfl 22 (.tmp 29) rfl (w.heap.size) 65 rfl (.int .u32 (b : Int)) _ ((Q2.out.nx hx).cell HCB.out) Tryd.underlying22 rfl (hK _ _ rfl (Nx.refl _)))
        · have e3 : x 3 = .agg (hcel I) := hd 3 (by decide)
          have e5 : x 5 = .int .u32 (b : Int) := hd 5 (by decide)
          generalize x 3 = y3 at e3 hK ⊢
          subst e3
          generalize x 5 = y5 at e5 hK ⊢
          subst e5
          refine wpOp_of rfl rfl (wp_call_of (some 31) rfl 55 #[(.agg (hcel I)), (.int .u32 (b : Int))] (by kernel_rfl) (.bool M) ?_ (fun w' h => hK _ w' rfl h))
          exact HM.out wr
      · intro x tm wr htm hx hv
        simp only [fillA, List.setIfInBounds_toArray, List.set_cons_zero, List.set_cons_succ] at htm
        subst htm
        have e6 : x 6 = .bool M := hv 6 (by decide)
        rw [e6]
        have R2 := Q2.out.nx hx
        have R4 := Lib.hid (Q4.out.nx hx)
        have RG := Lib.hid (QG.out.nx hx)
        have NN := Lib.hid (HN.out.trans hx)
        cases M
        · have c66 := R2.cell HCN.out
          have f66 := R2.frozen 66
          have U2 := Lib.hid (HQ2.out _ (R2.set 66 (.int .u32 (q2 : Int))))
          have U4 := Lib.hid (R4.out.other w.heap.size 66 (.int .u32 (q2 : Int)) (by omega))
          have UG := Lib.hid (hasSet RG.out w.heap.size 66 (.int .u32 (q2 : Int)) HGW.out.1)
          have UN := Lib.hid (NN.out.setAt (k := w.heap.size) (i := 66) (.int .u32 (q2 : Int)) (Nat.le_refl _))
          have HF2 := Lib.hid (HFN.out rfl)
          clear R4 RG NN Q2 Q4 QG HN HFN HMM
          go_wp2_with fail
          go_roundw
          case rel => exact ⟨k + 1, by go_num, Lib.hid (by have := hlt.out; omega), by rw [hq2.out]; exact U2, U4, UG, UN, HF2⟩
          case measure => have := hlt.out; simp [intOf]; omega
        · have hres := HMM.out rfl
          have S4 := R4.out
          go_wp2_with (first | (refine wpList_load_row rfl 32 (.tmp 2) rfl w.heap.size rfl 32 (hdc p r t b q) (0, 0) _ R2 Tryd.underlying32 rfl hqz.out ?_) | (refine wpList_store_row rfl 32 (.tmp 4) (.tmp 32) rfl (w.heap.size + 1) (hdc p r t b q) rfl rfl 32 (hdc Z32 Z32 0 0 0) S4 hqz.out hqo.out (hd_one _ _ _ _ _) ?_))
          exact bodyPost_ret (results_cell_two Tryd.results30 _ _ (w.heap.size + 1) 32 (hdc p r t b q) (0, 0) _ rfl (S4.setRow _) Tryd.underlying32 rfl hqz.out) rfl ⟨by rw [hres]; rfl, NN.out.setRow _ (Nat.le_succ _)⟩
    · obtain rfl : k = m := by have := hk.out; omega
      have hres : MR = .tuple #[.agg (hdc Z32 Z32 0 0 0), .int .i64 6] := by
        rw [← hMR.out]
        unfold mineR
        rw [show mineK p r t b n k = none by
          unfold mineK
          rw [List.find?_range_eq_none]
          intro j hj
          rw [HF.out j hj]; rfl]
      have S4 := Q4.out
      go_wp2_with (first | (refine wpList_val (some 37) rfl rfl (.agg (hdc Z32 Z32 0 0 0)) ?_ ?_; (focus kernel_rfl)) | (refine wpList_store_row rfl 32 (.tmp 4) (.tmp 37) rfl (w.heap.size + 1) (hdc Z32 Z32 0 0 0) rfl rfl 32 (hdc Z32 Z32 0 0 0) S4 cz.out rfl (hd_one _ _ _ _ _) ?_))
      exact bodyPost_ret (results_cell_two Tryd.results30 _ _ (w.heap.size + 1) 32 (hdc Z32 Z32 0 0 0) (0, 0) _ rfl (S4.setRow _) Tryd.underlying32 rfl cz.out) rfl ⟨by rw [hres]; rfl, HN.out.setRow _ (Nat.le_succ _)⟩
set_option maxRecDepth 100000 in
set_option maxHeartbeats 4000000 in
theorem rmine_bad (p r : List UInt8) (t b n k : Nat) (H : HOk p r t b n) (hE : ofE b ≠ 0) (w : World) :
    Calls Tryd.prog 30 #[.agg (hdc p r t b n), .int .u32 (k : Int)] w fun e w' => e = .returned (.tuple #[.agg (hdc Z32 Z32 0 0 0), .int .i64 5]) ∧ Nx w w' := by
  have HO := Lib.hid (fun w => refTOf_any b w (by have := H.b; omega))
  obtain ⟨hz2, hzs2⟩ := zero_of_info info_head
  have cz := Lib.hid (headsz Z32 Z32 0 0 0 Z32_length Z32_length)
  have RB := ((Row.new w (hdc p r t b n) 32 _ rfl).alloc (.cells (hdc Z32 Z32 0 0 0) 32)).cell (hd_b p r t b n H.p H.r)
  have R4 := Row.new2 w (.cells (hdc p r t b n) 32) (hdc Z32 Z32 0 0 0) 32
  have N0 := Lib.hid (((Nx.refl w).alloc (.cells (hdc p r t b n) 32)).alloc (.cells (hdc Z32 Z32 0 0 0) 32))
  have dE : (ofE b != 0) = true := by rw [bne_iff_ne]; exact hE
  generalize ofE b = E at *
  generalize ofT b = x at *
  clear H hE
  go_enter Tryd.func30, Tryd.ntmps30
  go_wp2_with fail
  refine (HO.out _).mono ?_
  rintro e w1 ⟨rfl, n1⟩
  have S4 := (R4.nx n1).alloc (.cells #[.int .u64 (lim x 0 : Int), .int .u64 (lim x 1 : Int), .int .u64 (lim x 2 : Int), .int .u64 (lim x 3 : Int)] 81)
  have N1 := Lib.hid ((N0.out.trans n1).alloc (.cells #[.int .u64 (lim x 0 : Int), .int .u64 (lim x 1 : Int), .int .u64 (lim x 2 : Int), .int .u64 (lim x 3 : Int)] 81))
  clear n1 R4 N0 RB
  go_wp2_with (first | (refine wpList_val (some 18) rfl rfl (.agg (hdc Z32 Z32 0 0 0)) ?_ ?_; (focus kernel_rfl)) | (refine wpList_store_row rfl 32 (.tmp 4) (.tmp 18) rfl (w.heap.size + 1) (hdc Z32 Z32 0 0 0) rfl rfl 32 (hdc Z32 Z32 0 0 0) S4 cz.out rfl (hd_one _ _ _ _ _) ?_))
  exact bodyPost_ret (results_cell_two Tryd.results30 _ _ (w.heap.size + 1) 32 (hdc Z32 Z32 0 0 0) (0, 0) _ rfl (S4.setRow _) Tryd.underlying32 rfl cz.out) rfl ⟨rfl, N1.out.setRow _ (Nat.le_succ _)⟩
end Go.Proofs.YtjbeemoobmagnaaDoor
