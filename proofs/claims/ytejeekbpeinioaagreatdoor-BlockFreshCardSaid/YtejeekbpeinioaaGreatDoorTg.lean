/- TEXTS OF OUR OWN, IN ONE FILE. -/
import Derived.Test.YtejeekbpeinioaaGreatDoorTf
import Derived.Test.YtejeekbpeinioaaGreatDoorTa
section
namespace Go.Proofs.YtejeekbpeinioaaGreatDoor
open Go Go.RowKit
set_option linter.unusedVariables false
set_option linter.unusedSimpArgs false

theorem gv_cases (l : List UInt8) (at_ : Int) : (getE l.length at_ 8 ≠ 0 ∧ gvT l at_ = (0, 0, getE l.length at_ 8)) ∨
    (getE l.length at_ 8 = 0 ∧ ((1125899906842624 < getN l at_ 8 ∧ gvT l at_ = (0, 0, 5)) ∨ (¬ 1125899906842624 < getN l at_ 8 ∧ gvT l at_ = (getN l at_ 8, at_ + 8, 0)))) := by
  unfold gvT
  by_cases h1 : getE l.length at_ 8 = 0
  · right
    refine ⟨h1, ?_⟩
    rw [if_neg (by simpa using h1)]
    by_cases h2 : 1125899906842624 < getN l at_ 8
    · left; exact ⟨h2, if_pos h2⟩
    · right; exact ⟨h2, if_neg h2⟩
  · left
    exact ⟨h1, if_pos h1⟩
theorem gb_cases (l : List UInt8) (at_ : Int) : (getE l.length at_ 1 ≠ 0 ∧ gbT l at_ = (false, 0, getE l.length at_ 1)) ∨
    (getE l.length at_ 1 = 0 ∧ ((1 < getN l at_ 1 ∧ gbT l at_ = (false, 0, 5)) ∨ (¬ 1 < getN l at_ 1 ∧ gbT l at_ = (getN l at_ 1 == 1, at_ + 1, 0)))) := by
  unfold gbT
  by_cases h1 : getE l.length at_ 1 = 0
  · right
    refine ⟨h1, ?_⟩
    rw [if_neg (by simpa using h1)]
    by_cases h2 : 1 < getN l at_ 1
    · left; exact ⟨h2, if_pos h2⟩
    · right; exact ⟨h2, if_neg h2⟩
  · left
    exact ⟨h1, if_pos h1⟩
set_option maxRecDepth 100000 in
set_option maxHeartbeats 4000000 in
theorem rgetOut_any (v : Value) (l : List UInt8) (at_ : Int) (w : World) (h : Rd w v l) (hr : l.length ≤ 140737488355328) :
    Calls Tryz.prog 79 #[v, .int .i64 at_] w fun e w' => ∃ lk, e = .returned (.tuple #[.agg #[.int .u64 ((goT l at_).1 : Int), lk], .int .i64 (goT l at_).2.2.1, .int .i64 (goT l at_).2.2.2]) ∧ Own w.heap.size w' lk (goT l at_).2.1 ∧ Nx w w' := by
  have HV := Lib.hid (fun w h => refGet_any v l at_ 8 w h hr)
  have HW := Lib.hid (fun w h => refGetRow_any v l (at_ + 8) 100 w h hr (by decide))
  have HOK := Lib.hid (fun h => getE_ok (l := l) (at_ := at_) (s := 8) h)
  have HRD := Lib.hid (fun w' (n : Nx w w') => h.nx n)
  obtain ⟨hz, hzs⟩ := zero_of_info info_out
  have io := Lib.hid hzs
  obtain ⟨A, c, rfl, -⟩ := h
  have hl : w.heap.size ≤ w.heap.size := Nat.le_refl _
  have R40 := Row.new w #[.int .u64 0, .slice none 0 0] 62 _ rfl
  have N40 := Lib.hid ((Nx.refl w).alloc (.cells #[.int .u64 0, .slice none 0 0] 62))
  unfold goT
  rcases gv_cases l at_ with ⟨c1, c2⟩ | ⟨c1, ⟨c2, c3⟩ | ⟨c2, c3⟩⟩
  · rw [c2]
    rw [if_pos c1]
    clear c2
    generalize getE l.length at_ 8 = E at *
    generalize getN l at_ 8 = N at *
    have dE : (E != 0) = true := by simp [c1]
    clear c1
    go_enter Tryz.func79, Tryz.ntmps79
    go_wp2_with fail
    refine (HV.out _ (HRD.out _ N40.out)).mono ?_
    rintro e w1 ⟨rfl, n1⟩
    have R41 := R40.nx n1
    have N1 := Lib.hid (N40.out.trans n1)
    clear n1
    go_wp2_with (first | (refine wpList_store_row rfl 62 (.tmp 4) (.tmp 20) rfl w.heap.size #[.int .u64 0, .slice none 0 0] rfl rfl 62 #[.int .u64 0, .slice none 0 0] R41 io.out rfl (ocel_one _ _ _ _) ?_))
    exact bodyPost_ret (results_cell_row3 Tryz.results79 _ _ w.heap.size 62 #[.int .u64 0, .slice none 0 0] (0, 0) _ rfl (R41.setRow _) Tryz.underlying62 rfl io.out) rfl ⟨_, rfl, Own.nil _ _, N1.out.setRow _ hl⟩
  · rw [c3, if_pos (by decide)]
    rw [c1] at HV
    clear c3 c1
    generalize getN l at_ 8 = N at *
    have d1 : decide ((1125899906842624 : Int) < (N : Int)) = true := decide_eq_true (by omega)
    have d2 : decide (1125899906842624 < N) = true := decide_eq_true c2
    clear c2
    go_enter Tryz.func79, Tryz.ntmps79
    go_wp2_with fail
    refine (HV.out _ (HRD.out _ N40.out)).mono ?_
    rintro e w1 ⟨rfl, n1⟩
    have R41 := R40.nx n1
    have N1 := Lib.hid (N40.out.trans n1)
    clear n1
    go_wp2_with (first | (refine wpList_store_row rfl 62 (.tmp 4) (.tmp 24) rfl w.heap.size #[.int .u64 0, .slice none 0 0] rfl rfl 62 #[.int .u64 0, .slice none 0 0] R41 io.out rfl (ocel_one _ _ _ _) ?_))
    exact bodyPost_ret (results_cell_row3 Tryz.results79 _ _ w.heap.size 62 #[.int .u64 0, .slice none 0 0] (0, 0) _ rfl (R41.setRow _) Tryz.underlying62 rfl io.out) rfl ⟨_, rfl, Own.nil _ _, N1.out.setRow _ hl⟩
  · rw [c3, if_neg (by simp)]
    dsimp only
    obtain ⟨p1, p2, -⟩ := HOK.out c1
    have p3 : at_ + 8 ≤ 9223372036854775807 := by omega
    rw [c1] at HV
    clear c3 c1
    generalize getN l at_ 8 = N at *
    generalize (gr l (at_ + 8) 100).1 = L at *
    generalize (gr l (at_ + 8) 100).2.1 = P2 at *
    generalize (gr l (at_ + 8) 100).2.2 = E2 at *
    have d1 : decide ((1125899906842624 : Int) < (N : Int)) = false := decide_eq_false (by omega)
    have d2 : decide (1125899906842624 < N) = false := decide_eq_false c2
    clear c2
    by_cases hE2 : E2 = 0
    · subst hE2
      rw [if_neg (by simp)]
      go_enter Tryz.func79, Tryz.ntmps79
      go_wp2_with fail
      refine (HV.out _ (HRD.out _ N40.out)).mono ?_
      rintro e w1 ⟨rfl, n1⟩
      have R41 := R40.nx n1
      have N1 := Lib.hid (N40.out.trans n1)
      clear n1
      go_wp2_with fail
      refine (HW.out _ (HRD.out _ N1.out)).mono ?_
      rintro e w2 ⟨v2, rfl, o1, n2⟩
      have R4 := R41.nx n2
      have N2 := Lib.hid (N1.out.trans n2)
      have hlt := R41.lt
      have O1 := Lib.hid ((o1.setRow_lt (k := w.heap.size) #[.int .u64 (N : Int), v2] hlt).mono (Nat.le_of_lt hlt))
      obtain ⟨A2, c2, rfl, -⟩ := o1.rd
      clear o1 n2 hlt R41
      go_wp2_with (first | (refine wpList_built (some 39) rfl rfl 62 _ rfl [(0, .int .u64 (N : Int)), (1, .slice A2 L.length c2)] (by kernel_rfl) _ (built_out N A2 L.length c2) ?_) | (refine wpList_store_row rfl 62 (.tmp 4) (.tmp 39) rfl w.heap.size #[.int .u64 (N : Int), .slice A2 L.length c2] rfl rfl 62 #[.int .u64 0, .slice none 0 0] R4 io.out rfl (ocel_one _ _ _ _) ?_))
      exact bodyPost_ret (results_cell_row3 Tryz.results79 _ _ w.heap.size 62 #[.int .u64 (N : Int), .slice A2 L.length c2] (0, 0) _ rfl (R4.setRow _) Tryz.underlying62 rfl io.out) rfl ⟨_, rfl, O1.out, N2.out.setRow _ hl⟩
    · rw [if_pos hE2]
      have dE : (E2 != 0) = true := by simp [hE2]
      clear hE2
      go_enter Tryz.func79, Tryz.ntmps79
      go_wp2_with fail
      refine (HV.out _ (HRD.out _ N40.out)).mono ?_
      rintro e w1 ⟨rfl, n1⟩
      have R41 := R40.nx n1
      have N1 := Lib.hid (N40.out.trans n1)
      clear n1
      go_wp2_with fail
      refine (HW.out _ (HRD.out _ N1.out)).mono ?_
      rintro e w2 ⟨v2, rfl, o1, n2⟩
      have R4 := R41.nx n2
      have N2 := Lib.hid (N1.out.trans n2)
      clear o1 n2 R41
      go_wp2_with (first | (refine wpList_store_row rfl 62 (.tmp 4) (.tmp 35) rfl w.heap.size #[.int .u64 0, .slice none 0 0] rfl rfl 62 #[.int .u64 0, .slice none 0 0] R4 io.out rfl (ocel_one _ _ _ _) ?_))
      exact bodyPost_ret (results_cell_row3 Tryz.results79 _ _ w.heap.size 62 #[.int .u64 0, .slice none 0 0] (0, 0) _ rfl (R4.setRow _) Tryz.underlying62 rfl io.out) rfl ⟨_, rfl, Own.nil _ _, N2.out.setRow _ hl⟩
end Go.Proofs.YtejeekbpeinioaaGreatDoor
end

section
namespace Go.Proofs.YtejeekbpeinioaaGreatDoor
open Go Go.RowKit
set_option linter.unusedVariables false
set_option linter.unusedSimpArgs false

/-- The bytes of a point's transaction, as far as they are read. -/
def fillX (X : List UInt8) (k : Nat) : List UInt8 := X.take k ++ List.replicate (32 - k) 0
theorem fillX_zero (X : List UInt8) : fillX X 0 = Z32 := by simp [fillX, Z32]
theorem fillX_all (X : List UInt8) (h : X.length = 32) : fillX X 32 = X := by simp [fillX, List.take_of_length_le (Nat.le_of_eq h)]
theorem fillX_length (X : List UInt8) (k : Nat) (h : X.length = 32) (hk : k ≤ 32) : (fillX X k).length = 32 := by
  simp [fillX, h]; omega
theorem fill_set (X : List UInt8) (k : Nat) (hX : X.length = 32) (hk : k < 32) (T : List Value) : (bvs (fillX X k) ++ T).set k (bv (X[k]'(by omega))) = bvs (fillX X (k + 1)) ++ T := by
  have e1 : fillX X k = X.take k ++ (0 :: List.replicate (31 - k) 0) := by unfold fillX; rw [show 32 - k = (31 - k) + 1 by omega, List.replicate_succ]
  have e2 : fillX X (k + 1) = X.take k ++ (X[k]'(by omega) :: List.replicate (31 - k) 0) := by
    unfold fillX
    rw [List.take_succ_eq_append_getElem (by omega), List.append_assoc, show 32 - (k + 1) = 31 - k by omega]
    rfl
  rw [e1, e2]
  simp only [bvs, List.map_append, List.map_cons, List.append_assoc, List.cons_append]
  rw [List.set_append_right _ _ (by simp; omega)]
  have e3 : k - (List.map bv (X.take k)).length = 0 := by simp; omega
  rw [e3]
  rfl
theorem pcel_set (X : List UInt8) (k : Nat) (hX : X.length = 32) (hk : k < 32) (n h : Nat) : (pcel (fillX X k) n h).setIfInBounds k (bv (X[k]'(by omega))) = pcel (fillX X (k + 1)) n h := by
  unfold pcel pcl
  rw [List.setIfInBounds_toArray, fill_set X k hX hk]
theorem pcel_upd0 (x0 x1 x2 x3 x4 x5 x6 x7 x8 x9 x10 x11 x12 x13 x14 x15 x16 x17 x18 x19 x20 x21 x22 x23 x24 x25 x26 x27 x28 x29 x30 x31 : UInt8) (N H : Nat) : ((pcel [x0, x1, x2, x3, x4, x5, x6, x7, x8, x9, x10, x11, x12, x13, x14, x15, x16, x17, x18, x19, x20, x21, x22, x23, x24, x25, x26, x27, x28, x29, x30, x31] 0 0).setIfInBounds 32 (.int .u16 (N : Int))).setIfInBounds 33 (.int .u32 (H : Int)) = pcel [x0, x1, x2, x3, x4, x5, x6, x7, x8, x9, x10, x11, x12, x13, x14, x15, x16, x17, x18, x19, x20, x21, x22, x23, x24, x25, x26, x27, x28, x29, x30, x31] N H := by kernel_rfl
theorem pcel_upd (X : List UInt8) (hX : X.length = 32) (N H : Nat) : ((pcel X 0 0).setIfInBounds 32 (.int .u16 (N : Int))).setIfInBounds 33 (.int .u32 (H : Int)) = pcel X N H := by
  obtain ⟨x0, x1, x2, x3, x4, x5, x6, x7, x8, x9, x10, x11, x12, x13, x14, x15, x16, x17, x18, x19, x20, x21, x22, x23, x24, x25, x26, x27, x28, x29, x30, x31, rfl⟩ := list32 X hX
  exact pcel_upd0 x0 x1 x2 x3 x4 x5 x6 x7 x8 x9 x10 x11 x12 x13 x14 x15 x16 x17 x18 x19 x20 x21 x22 x23 x24 x25 x26 x27 x28 x29 x30 x31 N H

set_option maxRecDepth 100000 in
set_option maxHeartbeats 4000000 in
theorem rgetPoint_any (v : Value) (l : List UInt8) (at_ : Int) (w : World) (h : Rd w v l) (hr : l.length ≤ 140737488355328) :
    Calls Tryz.prog 77 #[v, .int .i64 at_] w fun e w' => e = .returned (.tuple #[.agg (pcel (gpX l at_) (gpN l at_) (gpH l at_)), .int .i64 (gpP l at_), .int .i64 (gpE l at_)]) ∧ Nx w w' := by
  have HP := Lib.hid (fun w h => refPart_any v l at_ 38 w h hr)
  have HR := Lib.hid h
  obtain ⟨A, c, rfl, -⟩ := h
  obtain ⟨hz, hzs⟩ := zero_of_info info_point
  have HZL := Lib.hid Z32_length
  by_cases hE : gpE l at_ = 0
  · obtain ⟨q1, q2, q3⟩ := cut38 hE
    obtain ⟨g1, g2, g3⟩ := get38 _ q1 32 2 (by decide) (by decide)
    obtain ⟨k1, k2, k3⟩ := get38 _ q1 34 4 (by decide) (by decide)
    have HG1 : Hid (∀ v w, Rd w v (cutL l at_ 38) → Calls Tryz.prog 76 #[v, .int .i64 32, .int .i64 2] w fun e w' => e = .returned (.tuple #[.int .u64 (gpN l at_ : Int), .int .i64 0]) ∧ Nx w w') := Lib.hid fun v w h => by
      have := refGet_any v _ 32 2 w h (by omega)
      rw [show getE (cutL l at_ 38).length 32 2 = 0 from g1] at this
      unfold gpN
      rw [if_pos hE]
      exact this
    have HG2 : Hid (∀ v w, Rd w v (cutL l at_ 38) → Calls Tryz.prog 76 #[v, .int .i64 34, .int .i64 4] w fun e w' => e = .returned (.tuple #[.int .u64 (gpH l at_ : Int), .int .i64 0]) ∧ Nx w w') := Lib.hid fun v w h => by
      have := refGet_any v _ 34 4 w h (by omega)
      rw [show getE (cutL l at_ 38).length 34 4 = 0 from k1] at this
      unfold gpH
      rw [if_pos hE]
      exact this
    have hn : (gpN l at_ : Int) ≤ 65535 := by unfold gpN; rw [if_pos hE, show getN (cutL l at_ 38) 32 2 = _ from g2]; have : (256 : Nat) ^ 2 = 65536 := by decide
                                              omega
    have hh : (gpH l at_ : Int) ≤ 4294967295 := by unfold gpH; rw [if_pos hE, show getN (cutL l at_ 38) 34 4 = _ from k2]; have : (256 : Nat) ^ 4 = 4294967296 := by decide
                                                   omega
    have HX : Hid (gpX l at_ = (cutL l at_ 38).take 32) := Lib.hid (by unfold gpX; rw [if_pos hE])
    have HPP : Hid (gpP l at_ = at_ + 38) := Lib.hid (by unfold gpP; rw [if_pos hE])
    have HXL := Lib.hid (gpX_length l at_)
    have HEE := Lib.hid hE
    have hEc : cutE l.length at_ 38 = 0 := hE
    rw [hEc] at HP
    have HQ := Lib.hid q1
    have q4 : at_ + 38 ≤ 9223372036854775807 := by omega
    have HNN := Lib.hid hn
    have HHH := Lib.hid hh
    clear hE hEc q1 q3 g1 g2 g3 k1 k2 k3 hn hh
    rw [HEE.out, HPP.out]
    generalize cutL l at_ 38 = L at *
    generalize gpX l at_ = X at *
    generalize gpN l at_ = N at *
    generalize gpH l at_ = H at *
    go_enter Tryz.func77, Tryz.ntmps77
    go_wp2_with fail
    refine (HP.out _ (HR.out.alloc _)).mono ?_
    rintro e w1 ⟨v1, rfl, o1, n1⟩
    have R4 := (Row.new w (pcel Z32 0 0) 57 _ rfl).nx n1
    have N1 := Lib.hid (((Nx.refl w).alloc (.cells (pcel Z32 0 0) 57)).trans n1)
    have O1 := Lib.hid o1.rd
    have RL := o1.rd
    obtain ⟨A1, c1, rfl, -, -, ha1⟩ := o1.rd
    obtain ⟨b1, o2, rfl, hb1, hc1⟩ := ha1 (by rw [HQ.out]; decide)
    have HB1 := Lib.hid hb1
    have HC1 := Lib.hid hc1
    have HS1 := Lib.hid N1.out.size
    clear o1 n1 ha1 hb1 hc1 RL
    go_wp2_with fail
    go_loopw [10] (fun i wr => ∃ k : Nat, k ≤ 32 ∧ i = .int .i64 k ∧ Hid (Nx w1 wr) ∧ Row wr w1.heap.size (pcel (fillX X k) 0 0) 57) (fun i _ => 32 - (intOf i).toNat)
    case atStart =>
      refine ⟨0, by omega, rfl, (Nx.refl w1).alloc _, ?_⟩
      rw [fillX_zero]
      exact Row.new _ _ _ _ rfl
    case round =>
      obtain ⟨k, hk, rfl, HNX, R0⟩ := hrel
      by_cases hlt : k < 32
      · have hki : (k : Int) < 32 := by omega
        have hk0 : (0 : Int) ≤ (k : Int) := by omega
        have hkL : (k : Int) < (L.length : Int) := by have := HQ.out; omega
        have hkn : k < L.length := by have := HQ.out; omega
        have cl : wr.cell? ⟨b1, o2 + k, none⟩ = some (bv L[k]) := by rw [HNX.out.cell (p := ⟨b1, o2 + k, none⟩) HB1.out]; exact HC1.out k hkn
        have HK : Hid ((pcel (fillX X k) 0 0).setIfInBounds k (bv L[k]) = pcel (fillX X (k + 1)) 0 0) := Lib.hid (by
          rw [← pcel_set X k HXL.out hlt 0 0]
          congr 2
          simp only [HX.out, List.getElem_take])
        have ct := R0.cell (pcel_tx (fillX X k) 0 0 k (by rw [fillX_length X k HXL.out hk]; exact hlt))
        have f2 := R0.frozen
        unfold bv at cl ct
        go_wp2
        go_roundw
        case rel =>
          refine ⟨k + 1, by omega, by go_num, HNX.out.setAt _ (Nat.le_refl _), ?_⟩
          rw [← HK.out]
          exact R0.set k _
        case measure => simp [intOf]; omega
      · obtain rfl : k = 32 := by omega
        rw [fillX_all X HXL.out] at R0
        go_wp2_with fail
        refine (HG1.out _ _ (O1.out.nx HNX.out)).mono ?_
        rintro e w2 ⟨rfl, n2⟩
        have N2 := Lib.hid (HNX.out.trans n2)
        have R1 := R0.nx n2
        clear n2
        go_wp2_with fail
        refine (HG2.out _ _ (O1.out.nx N2.out)).mono ?_
        rintro e w3 ⟨rfl, n3⟩
        have HN3 := Lib.hid (N1.out.trans (N2.out.trans n3))
        have R2 := R1.nx n3
        have R5 := R4.nx (N2.out.trans n3)
        clear n3 N2 R1 R0 HNX
        have c32 := R2.cell (pcel_n X 0 0 HXL.out)
        have c33 := (R2.set 32 (.int .u16 (N : Int))).cell (i := 33) (v := .int .u32 0) (by rw [Array.getElem?_setIfInBounds_ne (by decide)]; exact pcel_h X 0 0 HXL.out)
        have f32 := R2.frozen
        have f33 := (R2.set 32 (.int .u16 (N : Int))).frozen
        have RP3 := (R2.set 32 (.int .u16 (N : Int))).set 33 (.int .u32 (H : Int))
        rw [pcel_upd X HXL.out] at RP3
        have hne : w.heap.size ≠ w1.heap.size := Nat.ne_of_lt R4.lt
        have R43 := (R5.other w1.heap.size 32 (.int .u16 (N : Int)) hne).other w1.heap.size 33 (.int .u32 (H : Int)) hne
        have NW3 := Lib.hid ((HN3.out.setAt (i := 32) (.int .u16 (N : Int)) HS1.out).setAt (i := 33) (.int .u32 (H : Int)) HS1.out)
        have ix := Lib.hid (pointsz X N H HXL.out)
        have jx := Lib.hid (pointsame Z32 X 0 0 N H HZL.out HXL.out)
        have hl : w.heap.size ≤ w.heap.size := Nat.le_refl _
        have hn := HNN.out
        have hh := HHH.out
        go_wp2_with (first | (refine wpList_load_row rfl 57 (.tmp 9) rfl w1.heap.size rfl 57 (pcel X N H) (0, 0) _ RP3 Tryz.underlying57 rfl ix.out ?_) | (refine wpList_store_row rfl 57 (.tmp 4) (.tmp 52) rfl w.heap.size (pcel X N H) rfl rfl 57 (pcel Z32 0 0) R43 ix.out jx.out (pcel_one _ _ _) ?_))
        exact bodyPost_ret (results_cell_row3 Tryz.results77 _ _ w.heap.size 57 (pcel X N H) (0, 0) _ rfl (R43.setRow _) Tryz.underlying57 rfl ix.out) rfl ⟨rfl, NW3.out.setRow _ hl⟩
  · have HE : Hid (gpE l at_ = cutE l.length at_ 38) := Lib.hid rfl
    have h1 : gpX l at_ = Z32 := by unfold gpX; rw [if_neg hE]
    have h2 : gpN l at_ = 0 := by unfold gpN; rw [if_neg hE]
    have h3 : gpH l at_ = 0 := by unfold gpH; rw [if_neg hE]
    have h4 : gpP l at_ = 0 := by unfold gpP; rw [if_neg hE]
    rw [h1, h2, h3, h4]
    rw [HE.out] at hE ⊢
    generalize cutE l.length at_ 38 = E at *
    have dE : (E != 0) = true := by simp [hE]
    clear h1 h2 h3 h4 hE HE
    have ip := Lib.hid (pointsz Z32 0 0 HZL.out)
    generalize cutL l at_ 38 = L at *
    go_enter Tryz.func77, Tryz.ntmps77
    go_wp2_with fail
    refine (HP.out _ (HR.out.alloc _)).mono ?_
    rintro e w1 ⟨v1, rfl, o1, n1⟩
    have R4 := (Row.new w (pcel Z32 0 0) 57 _ rfl).nx n1
    have N1 := Lib.hid (((Nx.refl w).alloc (.cells (pcel Z32 0 0) 57)).trans n1)
    clear o1 n1
    have hl : w.heap.size ≤ w.heap.size := Nat.le_refl _
    go_wp2_with (first | (refine wpList_store_row rfl 57 (.tmp 4) (.tmp 23) rfl w.heap.size (pcel Z32 0 0) rfl rfl 57 (pcel Z32 0 0) R4 ip.out rfl (pcel_one _ _ _) ?_))
    exact bodyPost_ret (results_cell_row3 Tryz.results77 _ _ w.heap.size 57 (pcel Z32 0 0) (0, 0) _ rfl (R4.setRow _) Tryz.underlying57 rfl ip.out) rfl ⟨rfl, N1.out.setRow _ hl⟩
end Go.Proofs.YtejeekbpeinioaaGreatDoor
end

section
namespace Go.Proofs.YtejeekbpeinioaaGreatDoor
open Go Go.RowKit
set_option linter.unusedVariables false
set_option linter.unusedSimpArgs false

theorem getE_ok1 {l : List UInt8} {at_ : Int} (h : getE l.length at_ 1 = 0) : 0 ≤ at_ ∧ at_ + 1 ≤ l.length := by
  obtain ⟨h1, h2, -⟩ := getE_ok h
  exact ⟨h1, h2⟩
end Go.Proofs.YtejeekbpeinioaaGreatDoor
end

section
namespace Go.Proofs.YtejeekbpeinioaaGreatDoor
open Go Go.RowKit
set_option linter.unusedVariables false
set_option linter.unusedSimpArgs false

theorem gr_le (l : List UInt8) (at_ most : Int) (h : (gr l at_ most).2.2 = 0) : (gr l at_ most).2.1 ≤ l.length ∧ 0 ≤ (gr l at_ most).2.1 := by
  obtain ⟨n, p, E, hg, ⟨h1, h2⟩ | ⟨rfl, ⟨h1, h2⟩ | ⟨h1, h3, h2⟩ | ⟨h1, h3, h4, h2⟩ | ⟨h1, h3, i, rfl, h4, h2⟩⟩⟩ := gr_cases l at_ most
  all_goals rw [h2] at h ⊢
  · exact absurd h h1
  · cases h
  · cases h
  · exact absurd h h4
  · dsimp only; omega
theorem gcT_p (l : List UInt8) (at_ : Int) (h : (gcT l at_).e = 0) : (gcT l at_).p ≤ l.length := by
  unfold gcT at h ⊢
  split at h
  · rename_i k; exact absurd h k
  split at h
  · rename_i k; exact absurd h k
  split at h
  · rename_i k; exact absurd h k
  split at h
  · rename_i k; exact absurd h k
  rename_i k1 k2 k3 k4
  rw [if_neg k1, if_neg k2, if_neg k3, if_neg k4]
  exact (gr_le l _ 100 (by simpa using k4)).1
end Go.Proofs.YtejeekbpeinioaaGreatDoor
end

section
namespace Go.Proofs.YtejeekbpeinioaaGreatDoor
open Go Go.RowKit
set_option linter.unusedVariables false
set_option linter.unusedSimpArgs false

def txc (l : List UInt8) : Array Value := (bvs l).toArray
theorem txc_asInts (h : List UInt8) : txc h = ints .u8 (h.map fun x => (x.toNat : Int)) := by
  simp [txc, ints, bvs, Function.comp_def]
set_option maxRecDepth 100000 in
theorem eq_point2 (tx ty : List UInt8) (n h m k : Nat) (hx : tx.length = 32) (hy : ty.length = 32) (w : World) :
    (Op.equalIn 10000 57 (.agg (pcel tx n h)) (.agg (pcel ty m k))).run Tryz.prog w = .ok (decide (tx = ty) && (decide (n = m) && decide (h = k))) w := by
  have hn : ∀ a b : Nat, ((a : Int) == (b : Int)) = decide (a = b) := fun a b => by rw [Bool.eq_iff_iff, beq_iff_eq, decide_eq_true_iff]; omega
  have hag : ∀ w, (isAgg 23).run Tryz.prog w = .ok true w := fun w => by kernel_rfl
  have hsz : ∀ w, (sizeOf 23).run Tryz.prog w = .ok 32 w := fun w => by kernel_rfl
  have ha16 : ∀ w, (isAgg 55).run Tryz.prog w = .ok false w := fun w => by kernel_rfl
  have ha32 : ∀ w, (isAgg 24).run Tryz.prog w = .ok false w := fun w => by kernel_rfl
  have ex : ∀ (t : List UInt8) (n h : Nat), t.length = 32 → (pcel t n h).extract 0 32 = txc t := fun t n h ht => by
    simp [pcel, pcl, txc, List.extract_toArray, List.take_append, bvs_length, ht, List.take_of_length_le (Nat.le_of_eq (show (bvs t).length = 32 by rw [bvs_length, ht]))]
  have p1 : ∀ (t : List UInt8) (n h : Nat) (w : World), t.length = 32 → (part 23 (pcel t n h) 0).run Tryz.prog w = .ok (.agg (txc t)) w := fun t n h w ht => by
    simp [part, hag, hsz, Sem.run_bind, ex t n h ht, pcel_size t n h ht]
  have p2 : ∀ (t : List UInt8) (n h : Nat) (w : World), t.length = 32 → (part 55 (pcel t n h) 32).run Tryz.prog w = .ok (.int .u16 n) w := fun t n h w ht => by
    simp [part, ha16, Sem.run_bind, pcel_n t n h ht]
  have p3 : ∀ (t : List UInt8) (n h : Nat) (w : World), t.length = 32 → (part 24 (pcel t n h) 33).run Tryz.prog w = .ok (.int .u32 h) w := fun t n h w ht => by
    simp [part, ha32, Sem.run_bind, pcel_h t n h ht]
  have e1 : ∀ w, (Op.equalIn 9999 23 (.agg (txc tx)) (.agg (txc ty))).run Tryz.prog w = .ok (decide (tx = ty)) w := fun w => by
    have := eq_ints (P := Tryz.prog) 9997 23 5 32 .u8 Tryz.underlying23 Tryz.underlying5 Tryz.isAgg5 Tryz.sizeOf5 (tx.map fun x => (x.toNat : Int)) (ty.map fun x => (x.toNat : Int)) (by simp [hx]) (by simp [hy]) w
    rw [← txc_asInts, ← txc_asInts] at this
    rw [this]
    congr 1
    rw [Bool.eq_iff_iff]
    simp only [decide_eq_true_eq]
    constructor
    · intro h
      have h2 : (tx.map fun x => (x.toNat : Int)).map (fun z : Int => UInt8.ofNat z.toNat) = (ty.map fun x => (x.toNat : Int)).map (fun z : Int => UInt8.ofNat z.toNat) := by rw [h]
      simpa [List.map_map, Function.comp_def] using h2
    · rintro rfl; rfl
  rw [run_equalIn_struct w 9999 57 _ _ (by kernel_rfl) (by kernel_rfl)]
  simp only [Program.fieldsOf, Tryz.underlying57, Op.eqFields]
  have e2 : ∀ w, (Op.equalIn 9999 55 (.int .u16 n) (.int .u16 m)).run Tryz.prog w = .ok (decide (n = m)) w := fun w => by
    rw [run_equalIn_int w 9998 55 .u16 .u16 _ _ Tryz.underlying55, hn]
  have e3 : ∀ w, (Op.equalIn 9999 24 (.int .u32 h) (.int .u32 k)).run Tryz.prog w = .ok (decide (h = k)) w := fun w => by
    rw [run_equalIn_int w 9998 24 .u32 .u32 _ _ Tryz.underlying24, hn]
  simp only [Sem.run_ite, Sem.run_bind, p1 tx n h _ hx, p1 ty m k _ hy, p2 tx n h _ hx, p2 ty m k _ hy, p3 tx n h _ hx, p3 ty m k _ hy, e1, e2, e3, Result.andThen_ok, Sem.run_pure, ne_eq, String.reduceEq, not_false_eq_true, if_true]
  rcases decide (tx = ty) with _ | _ <;> rcases decide (n = m) with _ | _ <;> rcases decide (h = k) with _ | _ <;> rfl
end Go.Proofs.YtejeekbpeinioaaGreatDoor
end

section
namespace Go.Proofs.YtejeekbpeinioaaGreatDoor
open Go Go.RowKit
set_option linter.unusedVariables false
set_option linter.unusedSimpArgs false

theorem run_neqp {P : Program} {w : World} {a : Act} {o : Oper} (T : TypeId) (x y : Operand) (T' : TypeId) (ho : o.op = .binOp .neq T x y T') (X Y : Array Value)
    (hx : a.eval x = .agg X) (hy : a.eval y = .agg Y) (hgt : P.eqGuardType P.depth T = false) (b : Bool) (heq : (Op.equalIn 10000 T (.agg X) (.agg Y)).run P w = .ok b w) : (execOp a.eval o).run P w = .ok (.value (.bool (!b))) w := by
  unfold execOp
  simp only [ho]
  have e1 : (eqGuard .neq T x y (a.eval x) (a.eval y)).run P w = .ok () w := by
    rw [hx, hy, run_eqGuard_agg w .neq T x y X Y hgt]
  have e2 : (binOp .neq T (a.eval x) (a.eval y)).run P w = .ok (.bool (!b)) w := by
    rw [hx, hy, run_neq_struct w T X Y, heq]
    rfl
  simp only [Sem.run_bind, e1, e2, Result.andThen_ok, Sem.run_pure]

end Go.Proofs.YtejeekbpeinioaaGreatDoor
end
