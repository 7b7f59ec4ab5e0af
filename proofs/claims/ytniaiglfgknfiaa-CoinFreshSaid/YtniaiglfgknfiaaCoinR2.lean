/- THE DOCUMENT'S ANSWERS OF LAYER 6: GetPoint. -/
import Derived.Test.YtniaiglfgknfiaaCoinR1
namespace Go.Proofs.Ytniaiglfgknfiaa
open Go Go.RowKit
set_option linter.unusedVariables false
set_option linter.unusedSimpArgs false

/-- The bytes of a point's transaction, as far as they are read. -/
def fillX (X : List UInt8) (k : Nat) : List UInt8 := X.take k ++ List.replicate (32 - k) 0
theorem fillX_zero (X : List UInt8) : fillX X 0 = Z32 := by simp [fillX, Z32]
theorem fillX_all (X : List UInt8) (h : X.length = 32) : fillX X 32 = X := by simp [fillX, List.take_of_length_le (Nat.le_of_eq h)]
theorem fillX_length (X : List UInt8) (k : Nat) (h : X.length = 32) (hk : k ≤ 32) : (fillX X k).length = 32 := by
  simp [fillX, h]; omega
theorem fill_set (X : List UInt8) (k : Nat) (hX : X.length = 32) (hk : k < 32) (T : List Value) : (bvs (fillX X k) ++ T).set k (bv (X[k]'(by omega))) = bvs (fillX X (k + 1)) ++ T := by
  have e1 : fillX X k = X.take k ++ (0 :: List.replicate (31 - k) 0) := by unfold fillX; rw [show 32 - k = (31 - k) + 1 by omega, List.replicate_succ]
  have e2 : fillX X (k + 1) = X.take k ++ (X[k]'(by omega) :: List.replicate (31 - k) 0) := by
    unfold fillX
    rw [List.take_succ_eq_append_getElem (by omega), List.append_assoc, show 32 - (k + 1) = 31 - k by omega]
    rfl
  rw [e1, e2]
  simp only [bvs, List.map_append, List.map_cons, List.append_assoc, List.cons_append]
  rw [List.set_append_right _ _ (by simp; omega)]
  have e3 : k - (List.map bv (X.take k)).length = 0 := by simp; omega
  rw [e3]
  rfl
theorem pcel_set (X : List UInt8) (k : Nat) (hX : X.length = 32) (hk : k < 32) (n h : Nat) : (pcel (fillX X k) n h).setIfInBounds k (bv (X[k]'(by omega))) = pcel (fillX X (k + 1)) n h := by
  unfold pcel pcl
  rw [List.setIfInBounds_toArray, fill_set X k hX hk]
theorem pcel_upd0 (x0 x1 x2 x3 x4 x5 x6 x7 x8 x9 x10 x11 x12 x13 x14 x15 x16 x17 x18 x19 x20 x21 x22 x23 x24 x25 x26 x27 x28 x29 x30 x31 : UInt8) (N H : Nat) : ((pcel [x0, x1, x2, x3, x4, x5, x6, x7, x8, x9, x10, x11, x12, x13, x14, x15, x16, x17, x18, x19, x20, x21, x22, x23, x24, x25, x26, x27, x28, x29, x30, x31] 0 0).setIfInBounds 32 (.int .u16 (N : Int))).setIfInBounds 33 (.int .u32 (H : Int)) = pcel [x0, x1, x2, x3, x4, x5, x6, x7, x8, x9, x10, x11, x12, x13, x14, x15, x16, x17, x18, x19, x20, x21, x22, x23, x24, x25, x26, x27, x28, x29, x30, x31] N H := by kernel_rfl
theorem pcel_upd (X : List UInt8) (hX : X.length = 32) (N H : Nat) : ((pcel X 0 0).setIfInBounds 32 (.int .u16 (N : Int))).setIfInBounds 33 (.int .u32 (H : Int)) = pcel X N H := by
  obtain ⟨x0, x1, x2, x3, x4, x5, x6, x7, x8, x9, x10, x11, x12, x13, x14, x15, x16, x17, x18, x19, x20, x21, x22, x23, x24, x25, x26, x27, x28, x29, x30, x31, rfl⟩ := list32 X hX
  exact pcel_upd0 x0 x1 x2 x3 x4 x5 x6 x7 x8 x9 x10 x11 x12 x13 x14 x15 x16 x17 x18 x19 x20 x21 x22 x23 x24 x25 x26 x27 x28 x29 x30 x31 N H

set_option maxRecDepth 100000 in
set_option maxHeartbeats 4000000 in
theorem rgetPoint_any (v : Value) (l : List UInt8) (at_ : Int) (w : World) (h : Rd w v l) (hr : l.length ≤ 140737488355328) :
    Calls Try.prog 18 #[v, .int .i64 at_] w fun e w' => e = .returned (.tuple #[.agg (pcel (gpX l at_) (gpN l at_) (gpH l at_)), .int .i64 (gpP l at_), .int .i64 (gpE l at_)]) ∧ Nx w w' := by
  have HP := Lib.hid (fun w h => refPart_any v l at_ 38 w h hr)
  have HR := Lib.hid h
  obtain ⟨A, c, rfl, -⟩ := h
  obtain ⟨hz, hzs⟩ := zero_of_info info_point
  have HZL := Lib.hid Z32_length
  by_cases hE : gpE l at_ = 0
  · obtain ⟨q1, q2, q3⟩ := cut38 hE
    obtain ⟨g1, g2, g3⟩ := get38 _ q1 32 2 (by decide) (by decide)
    obtain ⟨k1, k2, k3⟩ := get38 _ q1 34 4 (by decide) (by decide)
    have HG1 : Hid (∀ v w, Rd w v (cutL l at_ 38) → Calls Try.prog 43 #[v, .int .i64 32, .int .i64 2] w fun e w' => e = .returned (.tuple #[.int .u64 (gpN l at_ : Int), .int .i64 0]) ∧ Nx w w') := Lib.hid fun v w h => by
      have := refGet_any v _ 32 2 w h (by omega)
      rw [show getE (cutL l at_ 38).length 32 2 = 0 from g1] at this
      unfold gpN
      rw [if_pos hE]
      exact this
    have HG2 : Hid (∀ v w, Rd w v (cutL l at_ 38) → Calls Try.prog 43 #[v, .int .i64 34, .int .i64 4] w fun e w' => e = .returned (.tuple #[.int .u64 (gpH l at_ : Int), .int .i64 0]) ∧ Nx w w') := Lib.hid fun v w h => by
      have := refGet_any v _ 34 4 w h (by omega)
      rw [show getE (cutL l at_ 38).length 34 4 = 0 from k1] at this
      unfold gpH
      rw [if_pos hE]
      exact this
    have hn : (gpN l at_ : Int) ≤ 65535 := by unfold gpN; rw [if_pos hE, show getN (cutL l at_ 38) 32 2 = _ from g2]; have : (256 : Nat) ^ 2 = 65536 := by decide
                                              omega
    have hh : (gpH l at_ : Int) ≤ 4294967295 := by unfold gpH; rw [if_pos hE, show getN (cutL l at_ 38) 34 4 = _ from k2]; have : (256 : Nat) ^ 4 = 4294967296 := by decide
                                                   omega
    have HX : Hid (gpX l at_ = (cutL l at_ 38).take 32) := Lib.hid (by unfold gpX; rw [if_pos hE])
    have HPP : Hid (gpP l at_ = at_ + 38) := Lib.hid (by unfold gpP; rw [if_pos hE])
    have HXL := Lib.hid (gpX_length l at_)
    have HEE := Lib.hid hE
    have hEc : cutE l.length at_ 38 = 0 := hE
    rw [hEc] at HP
    have HQ := Lib.hid q1
    have q4 : at_ + 38 ≤ 9223372036854775807 := by omega
    have HNN := Lib.hid hn
    have HHH := Lib.hid hh
    clear hE hEc q1 q3 g1 g2 g3 k1 k2 k3 hn hh
    rw [HEE.out, HPP.out]
    generalize cutL l at_ 38 = L at *
    generalize gpX l at_ = X at *
    generalize gpN l at_ = N at *
    generalize gpH l at_ = H at *
    go_enter Try.func18, Try.ntmps18
    go_wp2_with fail
    refine (HP.out _ (HR.out.alloc _)).mono ?_
    rintro e w1 ⟨v1, rfl, o1, n1⟩
    have R4 := (Row.new w (pcel Z32 0 0) 27 _ rfl).nx n1
    have N1 := Lib.hid (((Nx.refl w).alloc (.cells (pcel Z32 0 0) 27)).trans n1)
    have O1 := Lib.hid o1.rd
    have RL := o1.rd
    obtain ⟨A1, c1, rfl, -, -, ha1⟩ := o1.rd
    obtain ⟨b1, o2, rfl, hb1, hc1⟩ := ha1 (by rw [HQ.out]; decide)
    have HB1 := Lib.hid hb1
    have HC1 := Lib.hid hc1
    have HS1 := Lib.hid N1.out.size
    clear o1 n1 ha1 hb1 hc1 RL
    go_wp2_with fail
    go_loopw [10] (fun i wr => ∃ k : Nat, k ≤ 32 ∧ i = .int .i64 k ∧ Hid (Nx w1 wr) ∧ Row wr w1.heap.size (pcel (fillX X k) 0 0) 27) (fun i _ => 32 - (intOf i).toNat)
    case atStart =>
      refine ⟨0, by omega, rfl, (Nx.refl w1).alloc _, ?_⟩
      rw [fillX_zero]
      exact Row.new _ _ _ _ rfl
    case round =>
      obtain ⟨k, hk, rfl, HNX, R0⟩ := hrel
      by_cases hlt : k < 32
      · have hki : (k : Int) < 32 := by omega
        have hk0 : (0 : Int) ≤ (k : Int) := by omega
        have hkL : (k : Int) < (L.length : Int) := by have := HQ.out; omega
        have hkn : k < L.length := by have := HQ.out; omega
        have cl : wr.cell? ⟨b1, o2 + k, none⟩ = some (bv L[k]) := by rw [HNX.out.cell (p := ⟨b1, o2 + k, none⟩) HB1.out]; exact HC1.out k hkn
        have HK : Hid ((pcel (fillX X k) 0 0).setIfInBounds k (bv L[k]) = pcel (fillX X (k + 1)) 0 0) := Lib.hid (by
          rw [← pcel_set X k HXL.out hlt 0 0]
          congr 2
          simp only [HX.out, List.getElem_take])
        have ct := R0.cell (pcel_tx (fillX X k) 0 0 k (by rw [fillX_length X k HXL.out hk]; exact hlt))
        have f2 := R0.frozen
        unfold bv at cl ct
        go_wp2
        go_roundw
        case rel =>
          refine ⟨k + 1, by omega, by go_num, HNX.out.setAt _ (Nat.le_refl _), ?_⟩
          rw [← HK.out]
          exact R0.set k _
        case measure => simp [intOf]; omega
      · obtain rfl : k = 32 := by omega
        rw [fillX_all X HXL.out] at R0
        go_wp2_with fail
        refine (HG1.out _ _ (O1.out.nx HNX.out)).mono ?_
        rintro e w2 ⟨rfl, n2⟩
        have N2 := Lib.hid (HNX.out.trans n2)
        have R1 := R0.nx n2
        clear n2
        go_wp2_with fail
        refine (HG2.out _ _ (O1.out.nx N2.out)).mono ?_
        rintro e w3 ⟨rfl, n3⟩
        have HN3 := Lib.hid (N1.out.trans (N2.out.trans n3))
        have R2 := R1.nx n3
        have R5 := R4.nx (N2.out.trans n3)
        clear n3 N2 R1 R0 HNX
        have c32 := R2.cell (pcel_n X 0 0 HXL.out)
        have c33 := (R2.set 32 (.int .u16 (N : Int))).cell (i := 33) (v := .int .u32 0) (by rw [Array.getElem?_setIfInBounds_ne (by decide)]; exact pcel_h X 0 0 HXL.out)
        have f32 := R2.frozen
        have f33 := (R2.set 32 (.int .u16 (N : Int))).frozen
        have RP3 := (R2.set 32 (.int .u16 (N : Int))).set 33 (.int .u32 (H : Int))
        rw [pcel_upd X HXL.out] at RP3
        have hne : w.heap.size ≠ w1.heap.size := Nat.ne_of_lt R4.lt
        have R43 := (R5.other w1.heap.size 32 (.int .u16 (N : Int)) hne).other w1.heap.size 33 (.int .u32 (H : Int)) hne
        have NW3 := Lib.hid ((HN3.out.setAt (i := 32) (.int .u16 (N : Int)) HS1.out).setAt (i := 33) (.int .u32 (H : Int)) HS1.out)
        have ix := Lib.hid (pointsz X N H HXL.out)
        have jx := Lib.hid (pointsame Z32 X 0 0 N H HZL.out HXL.out)
        have hl : w.heap.size ≤ w.heap.size := Nat.le_refl _
        have hn := HNN.out
        have hh := HHH.out
        go_wp2_with (first | (refine wpList_load_row rfl 27 (.tmp 9) rfl w1.heap.size rfl 27 (pcel X N H) (0, 0) _ RP3 Try.underlying27 rfl ix.out ?_) | (refine wpList_store_row rfl 27 (.tmp 4) (.tmp 52) rfl w.heap.size (pcel X N H) rfl rfl 27 (pcel Z32 0 0) R43 ix.out jx.out (pcel_one _ _ _) ?_))
        exact bodyPost_ret (results_cell_row3 Try.results18 _ _ w.heap.size 27 (pcel X N H) (0, 0) _ rfl (R43.setRow _) Try.underlying27 rfl ix.out) rfl ⟨rfl, NW3.out.setRow _ hl⟩
  · have HE : Hid (gpE l at_ = cutE l.length at_ 38) := Lib.hid rfl
    have h1 : gpX l at_ = Z32 := by unfold gpX; rw [if_neg hE]
    have h2 : gpN l at_ = 0 := by unfold gpN; rw [if_neg hE]
    have h3 : gpH l at_ = 0 := by unfold gpH; rw [if_neg hE]
    have h4 : gpP l at_ = 0 := by unfold gpP; rw [if_neg hE]
    rw [h1, h2, h3, h4]
    rw [HE.out] at hE ⊢
    generalize cutE l.length at_ 38 = E at *
    have dE : (E != 0) = true := by simp [hE]
    clear h1 h2 h3 h4 hE HE
    have ip := Lib.hid (pointsz Z32 0 0 HZL.out)
    generalize cutL l at_ 38 = L at *
    go_enter Try.func18, Try.ntmps18
    go_wp2_with fail
    refine (HP.out _ (HR.out.alloc _)).mono ?_
    rintro e w1 ⟨v1, rfl, o1, n1⟩
    have R4 := (Row.new w (pcel Z32 0 0) 27 _ rfl).nx n1
    have N1 := Lib.hid (((Nx.refl w).alloc (.cells (pcel Z32 0 0) 27)).trans n1)
    clear o1 n1
    have hl : w.heap.size ≤ w.heap.size := Nat.le_refl _
    go_wp2_with (first | (refine wpList_store_row rfl 27 (.tmp 4) (.tmp 23) rfl w.heap.size (pcel Z32 0 0) rfl rfl 27 (pcel Z32 0 0) R4 ip.out rfl (pcel_one _ _ _) ?_))
    exact bodyPost_ret (results_cell_row3 Try.results18 _ _ w.heap.size 27 (pcel Z32 0 0) (0, 0) _ rfl (R4.setRow _) Try.underlying27 rfl ip.out) rfl ⟨rfl, N1.out.setRow _ hl⟩
end Go.Proofs.Ytniaiglfgknfiaa
