/- THE DOCUMENT'S LAYER 2: turn, round. -/
import Derived.Test.YtpgdfboogjapeaaDoorSha8
namespace Go.Proofs.YtpgdfboogjapeaaDoor
open Go.RowKit
set_option linter.unusedVariables false
set_option linter.unusedSimpArgs false

set_option maxHeartbeats 400000 in
theorem rturn_st (x m : Int) (n : Nat) (hm : m = n) (h : Wd x) (hn : n ≤ 32) (w : World) :
    Calls Tryd.prog 41 #[.int .u32 x, .int .u64 m] w fun e w' => e = .returned (.int .u32 (rotI x n)) ∧ w' = w := by
  obtain ⟨h0, h1⟩ := h
  subst hm
  have hn0 : (0 : Int) ≤ (n : Int) := by omega
  have hn1 : (n : Int) ≤ 32 := by omega
  go_enter Tryd.func41, Tryd.ntmps41
  go_wp2
  go_ret
  exact ⟨rfl, rfl⟩
theorem rturn_any (x m : Int) (n : Nat) (w : World) (hm : m = n) (h : Wd x) (hn : n ≤ 32) :
    Calls Tryd.prog 41 #[.int .u32 x, .int .u64 m] w fun e w' => e = .returned (.int .u32 (rotI x n)) ∧ w = w' := (rturn_st x m n hm h hn w).mono fun _ _ h => ⟨h.1, h.2.symm⟩
theorem rturn_q (x m : Int) (n : Nat) (hm : m = n) (h : Wd x) (hn : n ≤ 32) (w : World) (k : Nat) :
    Calls Tryd.prog 41 #[.int .u32 x, .int .u64 m] (w.drewN k) fun e w' => e = .returned (.int .u32 (rotI x n)) ∧ ∃ j, w' = w.drewN j := (rturn_st x m n hm h hn _).mono fun _ _ h => ⟨h.1, k, h.2⟩

theorem rturn_q2 (x m : Int) (n : Nat) (hm : m = n) (h : Wd x) (hn : n ≤ 32) (w : World) (a k : Nat) :
    Calls Tryd.prog 41 #[.int .u32 x, .int .u64 m] (w.drewN (a + k)) fun e w' => e = .returned (.int .u32 (rotI x n)) ∧ ∃ j, w' = w.drewN (a + j) := (rturn_st x m n hm h hn _).mono fun _ _ h => ⟨h.1, k, h.2⟩

theorem wp_gen2 {P : Program} {c : Code} {Q : Exit → Act → World → Prop} {a : Act} {wr : World} (m n : Nat) (h : ∀ W, (∃ m n, W = (wr.drewN m).drewN n) → c.wp P Q a W) : c.wp P Q a ((wr.drewN m).drewN n) := h _ ⟨m, n, rfl⟩
theorem shift_row (a b c d e f g h x y : Value) :
    (((((((((#[a, b, c, d, e, f, g, h] : Array Value).setIfInBounds 7 g).setIfInBounds 6 f).setIfInBounds 5 e).setIfInBounds 4 d).setIfInBounds 3 c).setIfInBounds 2 b).setIfInBounds 1 a).setIfInBounds 4 y).setIfInBounds 0 x = #[x, a, b, c, y, e, f, g] := by kernel_rfl
theorem mul_byte (w x : Nat) (hw : w < 16777216) (hx : x < 256) : IntKind.u32.wrap (IntKind.u32.wrap (256 * (w : Int)) + (x : Int)) = ((256 * w + x : Nat) : Int) := by
  simp only [IntKind.wrap_u32']; omega

set_option maxRecDepth 100000 in
set_option maxHeartbeats 4000000 in
theorem rround_any (s : St) (B : List UInt8) (vb : Value) (w : World) (hs : s.ok) (hB : B.length = 64) (hr : Rd w vb B) :
    Calls Tryd.prog 32 #[.agg (ints .u32 s.list), vb, .agg (ints .u32 kL)] w fun e w' => e = .returned (.agg (ints .u32 (s.round B).list)) ∧ Nx w w' := by
  obtain ⟨hz, hzs⟩ := zero_of_info info_w64
  have HF := Lib.hid (firstL_zero B)
  have HZ : Hid ((List.replicate 64 (0 : Int)).length = 64) := Lib.hid List.length_replicate
  generalize List.replicate 64 (0 : Int) = Z at *
  obtain ⟨A, c, rfl, hc, hm, ha⟩ := hr
  obtain ⟨b, o, rfl, hb, hcell⟩ := ha (by omega)
  rw [hB] at hc ⊢
  have HC := Lib.hid hcell
  have HBL := Lib.hid hB
  have HB := Lib.hid hb
  have HWD := Lib.hid (fun n => schedL_wd B hB n)
  have HOK := Lib.hid hs
  have HKL : Hid (kL.length = 64) := Lib.hid kL_length
  have HROUND : Hid ((s.round B).list = (s.add (s.go kL (wordsL B) 64)).list) := Lib.hid rfl
  obtain ⟨RS, hRS⟩ : ∃ RS, (s.round B).list = RS := ⟨_, rfl⟩
  rw [hRS] at HROUND ⊢
  clear hRS ha hcell hB hb hs
  obtain ⟨KK, hKK⟩ : ∃ KK, kL = KK := ⟨_, rfl⟩
  rw [hKK] at HROUND HKL ⊢
  replace hKK := Lib.hid hKK
  go_enter Tryd.func32, Tryd.ntmps32
  go_wp2
  replace hz := Lib.hid hz
  replace hzs := Lib.hid hzs
  go_loopw [8] (fun i wr => ∃ k : Nat, k ≤ 16 ∧ i = .int .i64 k ∧ Hid (Nx w wr) ∧ Row wr w.heap.size (ints .u32 s.list) 34 ∧ Row wr (w.heap.size + 1) (ints .u32 KK) 42 ∧ Row wr (w.heap.size + 1 + 1) (ints .u32 [0, 0, 0, 0, 0, 0, 0, 0]) 34 ∧ Row wr (w.heap.size + 1 + 1 + 1) (ints .u32 (firstL B (4 * k))) 42) (fun i _ => 16 - (intOf i).toNat)
  case atStart =>
    refine ⟨0, by omega, rfl, ((((Nx.refl w).alloc _).alloc _).alloc _).alloc _, (((Row.new _ _ _ _ rfl).alloc _).alloc _).alloc _, ((Row.new2 _ _ _ _).alloc _).alloc _, (Row.new3 _ _ _ _ _).alloc _, ?_⟩
    rw [Nat.mul_zero, HF.out]
    exact Row.new _ _ _ _ (by simp)
  case round =>
    obtain ⟨k, hk, rfl, HN, R0, R1, R2, R3⟩ := hrel
    by_cases hlt : k < 16
    · have hk16 : (k : Int) < 16 := by omega
      go_wp2
      go_loopw [9] (fun j wr => ∃ m : Nat, m ≤ 4 ∧ j = .int .i64 m ∧ Hid (Nx w wr) ∧ Row wr w.heap.size (ints .u32 s.list) 34 ∧ Row wr (w.heap.size + 1) (ints .u32 KK) 42 ∧ Row wr (w.heap.size + 1 + 1) (ints .u32 [0, 0, 0, 0, 0, 0, 0, 0]) 34 ∧ Row wr (w.heap.size + 1 + 1 + 1) (ints .u32 (firstL B (4 * k + m))) 42) (fun j _ => 4 - (intOf j).toNat)
      case atStart => exact ⟨0, by omega, rfl, HN, R0, R1, R2, R3⟩
      case round =>
        clear HN R0 R1 R2 R3
        obtain ⟨m, hm4, rfl, HN, R0, R1, R2, R3⟩ := hrel
        by_cases hmt : m < 4
        · have hkl : 4 * k + m < B.length := by have := HBL.out; omega
          have HS := Lib.hid (firstL_set B (4 * k + m) hkl (by rw [HBL.out]; decide))
          have HP := Lib.hid (beN_part_lt B (4 * k + m) hkl)
          have HQ := Lib.hid (firstL_get B (4 * k + m) k (by omega))
          have hq : (4 * k + m) / 4 = k := by omega
          rw [hq] at HS HP
          have c2 : wr.cell? ⟨w.heap.size + 1 + 1 + 1, k, none⟩ = some (.int .u32 ((beN (cutB B (4 * k + m) k) : Nat) : Int)) := by
            have := R3.cell (ints_get .u32 (firstL B (4 * k + m)) k (by rw [firstL_length]; omega))
            rw [this, HQ.out]
          have cb : wr.cell? ⟨b, o + (4 * k + m), none⟩ = some (bv (B[4 * k + m])) := by
            rw [HN.out.cell (p := ⟨b, o + (4 * k + m), none⟩) HB.out]
            exact HC.out (4 * k + m) hkl
          have f2 := R3.frozen
          have HO := Lib.hid (mul_byte (beN (cutB B (4 * k + m) k)) (B[4 * k + m]).toNat HP.out (B[4 * k + m]).toNat_lt)
          have hx0 : IntKind.u32.wrap ((B[4 * k + m]).toNat : Int) = ((B[4 * k + m]).toNat : Int) := IntWalk.u32_in _ (by have := (B[4 * k + m]).toNat_lt; omega)
          clear hq HQ HP
          generalize beN (cutB B (4 * k + m) k) = v at *
          generalize B[4 * k + m] = x at *
          have hw1 : IntKind.i64.wrap (4 * (k : Int)) = 4 * (k : Int) := IntWalk.i64_in _ (by omega)
          have hw2 : IntKind.i64.wrap (4 * (k : Int) + (m : Int)) = 4 * (k : Int) + (m : Int) := IntWalk.i64_in _ (by omega)
          have hw3 : (0 : Int) ≤ 4 * (k : Int) + (m : Int) := by omega
          have hw4 : 4 * (k : Int) + (m : Int) < 64 := by omega
          have hw5 : (4 * (k : Int) + (m : Int)).toNat = 4 * k + m := by omega
          have hw6 : (k : Int) < 64 := by omega
          go_wp2
          go_still_tail 14, (by kernel_rfl)
          change wpList _ _ _ _ _ wr.drew
          rw [HO.out]
          clear HO
          generalize 256 * v + x.toNat = z at *
          go_wp2
          go_roundw
          case rel =>
            refine ⟨m + 1, by omega, by go_num, (HN.out.setAt _ (by omega)).drew, (R0.other _ _ _ (by omega)).drew, (R1.other _ _ _ (by omega)).drew, (R2.other _ _ _ (by omega)).drew, ?_⟩
            rw [← Nat.add_assoc, ← HS.out, ← ints_set]
            exact (R3.set k _).drew
          case measure => simp [intOf]; omega
        · obtain rfl : m = 4 := by omega
          go_wp2
          go_roundw
          case rel => exact ⟨k + 1, by omega, by go_num, HN, R0, R1, R2, by rw [Nat.mul_add, Nat.mul_one]; exact R3⟩
          case measure => simp [intOf]; omega
    · obtain rfl : k = 16 := by omega
      have e0 : firstL B (4 * 16) = schedL B 0 := rfl
      rw [e0] at R3
      clear e0 HF HC HB
      rw [show ((16 : Nat) : Int) = 16 from rfl]
      go_wp2
      go_loopw [10] (fun i wr => ∃ k n : Nat, k = 16 + n ∧ k ≤ 64 ∧ i = .int .i64 k ∧ Hid (Nx w wr) ∧ Row wr w.heap.size (ints .u32 s.list) 34 ∧ Row wr (w.heap.size + 1) (ints .u32 KK) 42 ∧ Row wr (w.heap.size + 1 + 1) (ints .u32 [0, 0, 0, 0, 0, 0, 0, 0]) 34 ∧ Row wr (w.heap.size + 1 + 1 + 1) (ints .u32 (schedL B n)) 42) (fun i _ => 64 - (intOf i).toNat)
      case atStart => exact ⟨16, 0, rfl, by omega, rfl, HN, R0, R1, R2, R3⟩
      case round =>
        clear HN R0 R1 R2 R3
        obtain ⟨k, n, hkn, hk, rfl, HN, R0, R1, R2, R3⟩ := hrel
        replace hkn := Lib.hid hkn
        by_cases hlt : k < 64
        · have HE : Hid (schedL B (n + 1) = (schedL B n).set k (ext (schedL B n) k)) := Lib.hid (by rw [hkn.out]; rfl)
          have HL := Lib.hid (schedL_length B n)
          have HWN := Lib.hid (HWD.out n)
          clear HWD HROUND
          generalize schedL B n = L at *
          have hk16 : 16 ≤ k := by have := hkn.out; omega
          obtain ⟨p16, h16⟩ : ∃ p : Nat, (k : Int) - 16 = (p : Int) := ⟨k - 16, by omega⟩
          obtain ⟨p15, h15⟩ : ∃ p : Nat, (k : Int) - 15 = (p : Int) := ⟨k - 15, by omega⟩
          obtain ⟨p7, h7⟩ : ∃ p : Nat, (k : Int) - 7 = (p : Int) := ⟨k - 7, by omega⟩
          obtain ⟨p2, h2⟩ : ∃ p : Nat, (k : Int) - 2 = (p : Int) := ⟨k - 2, by omega⟩
          have HX : Hid (ext L k = (L.getD p16 0 + s0 (L.getD p15 0) + L.getD p7 0 + s1 (L.getD p2 0)) % 4294967296) := by
            rw [show p16 = k - 16 by omega, show p15 = k - 15 by omega, show p7 = k - 7 by omega, show p2 = k - 2 by omega]; exact Lib.hid rfl
          have hc : ∀ p, p < 64 → wr.cell? ⟨w.heap.size + 1 + 1 + 1, p, none⟩ = some (.int .u32 (L.getD p 0)) := fun p hp => by
            have hp2 : p < L.length := by rw [HL.out]; exact hp
            rw [R3.cell (ints_get .u32 L p hp2), List.getD_eq_getElem?_getD, List.getElem?_eq_getElem hp2]; rfl
          have c16 := hc p16 (by omega)
          have c15 := hc p15 (by omega)
          have c7 := hc p7 (by omega)
          have c2 := hc p2 (by omega)
          have ck := hc k hlt
          have f3 := R3.frozen
          clear hc
          have d16 := HWN.out p16
          have d15 := Lib.hid (HWN.out p15)
          have d7 := HWN.out p7
          have d2 := Lib.hid (HWN.out p2)
          have q16 : p16 < 64 := by omega
          have q15 : p15 < 64 := by omega
          have q7 : p7 < 64 := by omega
          have q2 : p2 < 64 := by omega
          generalize L.getD k 0 = yk at *
          generalize L.getD p16 0 = y16 at *
          generalize L.getD p15 0 = y15 at *
          generalize L.getD p7 0 = y7 at *
          generalize L.getD p2 0 = y2 at *
          have w16 : IntKind.i64.wrap ((k : Int) - 16) = (p16 : Int) := by rw [h16]; exact IntWalk.i64_in _ (by omega)
          have w15 : IntKind.i64.wrap ((k : Int) - 15) = (p15 : Int) := by rw [h15]; exact IntWalk.i64_in _ (by omega)
          have w7 : IntKind.i64.wrap ((k : Int) - 7) = (p7 : Int) := by rw [h7]; exact IntWalk.i64_in _ (by omega)
          have w2 : IntKind.i64.wrap ((k : Int) - 2) = (p2 : Int) := by rw [h2]; exact IntWalk.i64_in _ (by omega)
          have b16 : (p16 : Int) < 64 := by omega
          have b7 : (p7 : Int) < 64 := by omega
          have v16 : IntKind.i64.wrap (p16 : Int) = (p16 : Int) := IntWalk.i64_in _ (by omega)
          have v7 : IntKind.i64.wrap (p7 : Int) = (p7 : Int) := IntWalk.i64_in _ (by omega)
          go_wp2
          go_quiet (fail)
          go_wp2
          have r9 : 0 ≤ s0 y15 ∧ s0 y15 < 4294967296 := u32_range _ _ _
          have r10 : 0 ≤ s1 y2 ∧ s1 y2 < 4294967296 := u32_range _ _ _
          have HW3 : Hid (IntKind.u32.wrap (IntKind.u32.wrap (IntKind.u32.wrap (y16 + s0 y15) + y7) + s1 y2) = ext L k) := Lib.hid (by rw [HX.out]; simp only [IntKind.wrap_u32']; omega)
          clear HX r9 r10
          replace HN : Hid (Nx w (wr.drewN nq)) := HN.out.drewN nq
          replace R0 := R0.drewN nq
          replace R1 := R1.drewN nq
          replace R2 := R2.drewN nq
          replace R3 := R3.drewN nq
          replace c16 : (wr.drewN nq).cell? _ = _ := c16
          replace c7 : (wr.drewN nq).cell? _ = _ := c7
          replace ck : (wr.drewN nq).cell? _ = _ := ck
          replace f3 := R3.frozen
          clear c15 c2
          generalize wr.drewN nq = wq at *
          refine wp_region_still_tail 28 (by kernel_rfl) (by kernel_rfl) ?_
          simp only [List.take_succ_cons, List.take_zero, List.drop_succ_cons, List.drop_zero]
          repeat (first | still_step | (refine wpStill_step (fun K hK => ?_); go_simp; (with_reducible refine ⟨_, rturn_st y15 7 7 rfl d15.out (by decide) _, hK _ ?_⟩); clear hK K) | (refine wpStill_step (fun K hK => ?_); go_simp; (with_reducible refine ⟨_, rturn_st y15 18 18 rfl d15.out (by decide) _, hK _ ?_⟩); clear hK K) | (refine wpStill_step (fun K hK => ?_); go_simp; (with_reducible refine ⟨_, rturn_st y2 17 17 rfl d2.out (by decide) _, hK _ ?_⟩); clear hK K) | (refine wpStill_step (fun K hK => ?_); go_simp; (with_reducible refine ⟨_, rturn_st y2 19 19 rfl d2.out (by decide) _, hK _ ?_⟩); clear hK K))
          refine wpStill_nil ?_
          change wpList _ _ _ _ _ wq.drew
          have e9 : bits .xor .u32 (bits .xor .u32 (rotI y15 7) (rotI y15 18)) (y15 / 8) = s0 y15 := rfl
          have e10 : bits .xor .u32 (bits .xor .u32 (rotI y2 17) (rotI y2 19)) (y2 / 1024) = s1 y2 := rfl
          rw [e9, e10, HW3.out]
          clear e9 e10 HW3
          generalize ext L k = xx at *
          go_wp2
          go_roundw
          case rel =>
            refine ⟨k + 1, n + 1, by have := hkn.out; omega, by omega, by go_num, (HN.out.setAt _ (by omega)).drew, (R0.other _ _ _ (by omega)).drew, (R1.other _ _ _ (by omega)).drew, (R2.other _ _ _ (by omega)).drew, ?_⟩
            rw [HE.out, ← ints_set]
            exact (R3.set k _).drew
          case measure => simp [intOf]; omega
        · obtain rfl : k = 64 := by omega
          obtain rfl : n = 48 := by have := hkn.out; omega
          rw [show schedL B 48 = wordsL B from rfl] at R3
          rw [show ((64 : Nat) : Int) = 64 from rfl]
          have HWL : Hid ((wordsL B).length = 64) := Lib.hid (schedL_length B 48)
          have HWW : Hid (WdL (wordsL B)) := Lib.hid (HWD.out 48)
          clear HWD
          obtain ⟨WL, hWL⟩ : ∃ WL, wordsL B = WL := ⟨_, rfl⟩
          rw [hWL] at HWL HWW R3 HROUND
          clear hWL hkn
          have hsz8 : (Tryd.prog.info? 34).map (·.size) = some (ints .u32 s.list).size := by rw [ints_size]; kernel_rfl
          replace hsz8 := Lib.hid hsz8
          have hov : (ints .u32 [0, 0, 0, 0, 0, 0, 0, 0]).size = (ints .u32 s.list).size := by rw [ints_size, ints_size]; rfl
          replace hov := Lib.hid hov
          have HGO := Lib.hid (fun n => St.ok.go HOK.out KK WL n)
          obtain ⟨SL, hSL⟩ : ∃ SL, s.list = SL := ⟨_, rfl⟩
          rw [hSL] at R0 hsz8 hov ⊢
          replace hSL := Lib.hid hSL
          have RN := Row.new wr (ints .u32 [0, 0, 0, 0, 0, 0, 0, 0]) 34 _ rfl
          go_wp2_with (first | (refine wpList_load_row rfl 34 (.tmp 3) rfl w.heap.size rfl 34 (ints .u32 SL) (0, 0) _ R0 Tryd.underlying34 rfl hsz8.out ?_) | (refine wpList_store_row rfl 34 (.tmp 13) (.tmp 85) rfl wr.heap.size (ints .u32 SL) rfl rfl 34 (ints .u32 [0, 0, 0, 0, 0, 0, 0, 0]) RN hsz8.out hov.out (ints_one _ _) ?_))
          have hW4 : Nx wr ((wr.alloc (.cells (ints .u32 [0, 0, 0, 0, 0, 0, 0, 0]) 34)).setRow wr.heap.size (ints .u32 SL)) := ((Nx.refl wr).alloc _).setRow _ (Nat.le_refl _)
          have hg0 : w.heap.size ≠ wr.heap.size := Nat.ne_of_lt R0.lt
          have hg1 : w.heap.size + 1 ≠ wr.heap.size := Nat.ne_of_lt R1.lt
          have hg2 : w.heap.size + 1 + 1 ≠ wr.heap.size := Nat.ne_of_lt R2.lt
          have hg3 : w.heap.size + 1 + 1 + 1 ≠ wr.heap.size := Nat.ne_of_lt R3.lt
          have hgw : w.heap.size ≤ wr.heap.size := HN.out.size
          have HN4 := Lib.hid (HN.out.trans hW4)
          have R04 := R0.nx hW4
          have R14 := R1.nx hW4
          have R24 := R2.nx hW4
          have R34 := R3.nx hW4
          have RV4 := RN.setRow (ints .u32 SL)
          clear HN R0 R1 R2 R3 RN hW4
          change Code.wp _ _ _ _ ((wr.alloc (.cells (ints .u32 [0, 0, 0, 0, 0, 0, 0, 0]) 34)).setRow wr.heap.size (ints .u32 SL))
          generalize ((wr.alloc (.cells (ints .u32 [0, 0, 0, 0, 0, 0, 0, 0]) 34)).setRow wr.heap.size (ints .u32 SL)) = W4 at *
          generalize wr.heap.size = gV at *
          go_loopw [14] (fun i wr => ∃ k : Nat, k ≤ 64 ∧ i = .int .i64 k ∧ Hid (Nx w wr) ∧ Row wr w.heap.size (ints .u32 SL) 34 ∧ Row wr (w.heap.size + 1) (ints .u32 KK) 42 ∧ Row wr (w.heap.size + 1 + 1) (ints .u32 [0, 0, 0, 0, 0, 0, 0, 0]) 34 ∧ Row wr (w.heap.size + 1 + 1 + 1) (ints .u32 WL) 42 ∧ Row wr gV (ints .u32 (s.go KK WL k).list) 34) (fun i _ => 64 - (intOf i).toNat)
          case atStart =>
            refine ⟨0, by omega, rfl, HN4, R04, R14, R24, R34, ?_⟩
            rw [show (s.go KK WL 0).list = s.list from rfl, hSL.out]
            exact RV4
          case round =>
            clear HN4 R04 R14 R24 R34 RV4
            obtain ⟨k, hk, rfl, HN, R0, R1, R2, R3, RV⟩ := hrel
            by_cases hlt : k < 64
            · have hk64 : (k : Int) < 64 := by omega
              have hst : Hid (s.go KK WL (k + 1) = (s.go KK WL k).step (KK.getD k 0) (WL.getD k 0)) := Lib.hid rfl
              have ckk : wr.cell? ⟨w.heap.size + 1, k, none⟩ = some (.int .u32 (KK.getD k 0)) := by
                have hp2 : k < KK.length := by rw [HKL.out]; exact hlt
                rw [R1.cell (ints_get .u32 KK k hp2), List.getD_eq_getElem?_getD, List.getElem?_eq_getElem hp2]; rfl
              have cww : wr.cell? ⟨w.heap.size + 1 + 1 + 1, k, none⟩ = some (.int .u32 (WL.getD k 0)) := by
                have hp2 : k < WL.length := by rw [HWL.out]; exact hlt
                rw [R3.cell (ints_get .u32 WL k hp2), List.getD_eq_getElem?_getD, List.getElem?_eq_getElem hp2]; rfl
              have HO := HGO.out k
              clear HGO HROUND
              generalize s.go KK WL k = t at *
              generalize KK.getD k 0 = kk at *
              generalize WL.getD k 0 = x at *
              obtain ⟨oa, ob, oc, od, oe, of, og, oh⟩ := HO
              replace oa := Lib.hid oa
              replace oe := Lib.hid oe
              clear ob oc od of og oh
              obtain ⟨a, b1, c1, d, e, f, g, h8⟩ := t
              replace RV : Row wr gV #[.int .u32 a, .int .u32 b1, .int .u32 c1, .int .u32 d, .int .u32 e, .int .u32 f, .int .u32 g, .int .u32 h8] 34 := RV
              have v0 : wr.cell? ⟨gV, 0, none⟩ = some (.int .u32 a) := RV.cell rfl
              have v1 : wr.cell? ⟨gV, 1, none⟩ = some (.int .u32 b1) := RV.cell rfl
              have v2 : wr.cell? ⟨gV, 2, none⟩ = some (.int .u32 c1) := RV.cell rfl
              have v3 : wr.cell? ⟨gV, 3, none⟩ = some (.int .u32 d) := RV.cell rfl
              have v4 : wr.cell? ⟨gV, 4, none⟩ = some (.int .u32 e) := RV.cell rfl
              have v5 : wr.cell? ⟨gV, 5, none⟩ = some (.int .u32 f) := RV.cell rfl
              have v6 : wr.cell? ⟨gV, 6, none⟩ = some (.int .u32 g) := RV.cell rfl
              have v7 : wr.cell? ⟨gV, 7, none⟩ = some (.int .u32 h8) := RV.cell rfl
              have fv := RV.frozen
              have HX1 : Hid (bits .xor .u32 (bits .xor .u32 (rotI e 6) (rotI e 11)) (rotI e 25) = bits .xor .u32 (bits .xor .u32 (rotI e 6) (rotI e 11)) (rotI e 25)) := Lib.hid rfl
              go_wp2
              go_quiet (fail)
              go_wp2
              go_quiet ((go_at_call 41; (with_reducible first | exact rturn_q2 e 6 6 rfl oe.out (by decide) _ _ _ | exact rturn_q2 e 11 11 rfl oe.out (by decide) _ _ _ | exact rturn_q2 e 25 25 rfl oe.out (by decide) _ _ _)))
              go_wp2
              go_quiet ((go_at_call 41; (with_reducible first | exact rturn_q2 a 2 2 rfl oa.out (by decide) _ _ _ | exact rturn_q2 a 13 13 rfl oa.out (by decide) _ _ _ | exact rturn_q2 a 22 22 rfl oa.out (by decide) _ _ _)))
              go_wp2
              have eT1 : (h8 + bits .xor .u32 (bits .xor .u32 (rotI e 6) (rotI e 11)) (rotI e 25) + bits .xor .u32 (bits .and .u32 e f) (bits .and .u32 (bits .xor .u32 IntKind.u32.max e) g) + kk + x) % 4294967296 = t1 e f g h8 kk x := rfl
              have eT2 : (bits .xor .u32 (bits .xor .u32 (rotI a 2) (rotI a 13)) (rotI a 22) + bits .xor .u32 (bits .xor .u32 (bits .and .u32 a b1) (bits .and .u32 a c1)) (bits .and .u32 b1 c1)) % 4294967296 = t2 a b1 c1 := rfl
              rw [eT1, eT2]
              clear eT1 eT2 HX1
              have hst2 : Hid (s.go KK WL (k + 1) = ⟨(t1 e f g h8 kk x + t2 a b1 c1) % 4294967296, a, b1, c1, (d + t1 e f g h8 kk x) % 4294967296, e, f, g⟩) := Lib.hid hst.out
              clear hst
              generalize t1 e f g h8 kk x = T1 at *
              generalize t2 a b1 c1 = T2 at *
              refine wp_gen2 _ _ ?_
              rintro wq ⟨m1, n1, hwq⟩
              have HNq : Hid (Nx w wq) := Lib.hid (by rw [hwq]; exact (HN.out.drewN _).drewN _)
              have R0q : Row wq w.heap.size (ints .u32 SL) 34 := by rw [hwq]; exact R0
              have R1q : Row wq (w.heap.size + 1) (ints .u32 KK) 42 := by rw [hwq]; exact R1
              have R2q : Row wq (w.heap.size + 1 + 1) (ints .u32 [0, 0, 0, 0, 0, 0, 0, 0]) 34 := by rw [hwq]; exact R2
              have R3q : Row wq (w.heap.size + 1 + 1 + 1) (ints .u32 WL) 42 := by rw [hwq]; exact R3
              have RVq : Row wq gV #[.int .u32 a, .int .u32 b1, .int .u32 c1, .int .u32 d, .int .u32 e, .int .u32 f, .int .u32 g, .int .u32 h8] 34 := by rw [hwq]; exact RV
              clear v0 v1 v2 v3 v4 v5 v6 v7 fv ckk cww HN R0 R1 R2 R3 RV hwq
              have v0 : wq.cell? ⟨gV, 0, none⟩ = some (.int .u32 a) := RVq.cell rfl
              have v1 : wq.cell? ⟨gV, 1, none⟩ = some (.int .u32 b1) := RVq.cell rfl
              have v2 : wq.cell? ⟨gV, 2, none⟩ = some (.int .u32 c1) := RVq.cell rfl
              have v3 : wq.cell? ⟨gV, 3, none⟩ = some (.int .u32 d) := RVq.cell rfl
              have v4 : wq.cell? ⟨gV, 4, none⟩ = some (.int .u32 e) := RVq.cell rfl
              have v5 : wq.cell? ⟨gV, 5, none⟩ = some (.int .u32 f) := RVq.cell rfl
              have v6 : wq.cell? ⟨gV, 6, none⟩ = some (.int .u32 g) := RVq.cell rfl
              have v7 : wq.cell? ⟨gV, 7, none⟩ = some (.int .u32 h8) := RVq.cell rfl
              have fv := RVq.frozen
              refine wp_loop_rounds 8 ?_
              rw [rounds_succ]
              go_wp2
              rw [rounds_succ]
              go_wp2
              rw [rounds_succ]
              go_wp2
              rw [rounds_succ]
              go_wp2
              rw [rounds_succ]
              go_wp2
              rw [rounds_succ]
              go_wp2
              rw [rounds_succ]
              go_wp2
              rw [rounds_succ]
              go_wp2
              go_roundw
              case rel =>
                refine ⟨k + 1, by omega, by go_num, ((((((((HNq.out.setAt _ hgw).setAt _ hgw).setAt _ hgw).setAt _ hgw).setAt _ hgw).setAt _ hgw).setAt _ hgw).setAt _ hgw).setAt _ hgw, ((((((((R0q.other _ 7 _ hg0).other _ 6 _ hg0).other _ 5 _ hg0).other _ 4 _ hg0).other _ 3 _ hg0).other _ 2 _ hg0).other _ 1 _ hg0).other _ 4 _ hg0).other _ 0 _ hg0, ((((((((R1q.other _ 7 _ hg1).other _ 6 _ hg1).other _ 5 _ hg1).other _ 4 _ hg1).other _ 3 _ hg1).other _ 2 _ hg1).other _ 1 _ hg1).other _ 4 _ hg1).other _ 0 _ hg1, ((((((((R2q.other _ 7 _ hg2).other _ 6 _ hg2).other _ 5 _ hg2).other _ 4 _ hg2).other _ 3 _ hg2).other _ 2 _ hg2).other _ 1 _ hg2).other _ 4 _ hg2).other _ 0 _ hg2, ((((((((R3q.other _ 7 _ hg3).other _ 6 _ hg3).other _ 5 _ hg3).other _ 4 _ hg3).other _ 3 _ hg3).other _ 2 _ hg3).other _ 1 _ hg3).other _ 4 _ hg3).other _ 0 _ hg3, ?_⟩
                rw [hst2.out]
                have HV := ((((((((RVq.set 7 (.int .u32 g)).set 6 (.int .u32 f)).set 5 (.int .u32 e)).set 4 (.int .u32 d)).set 3 (.int .u32 c1)).set 2 (.int .u32 b1)).set 1 (.int .u32 a)).set 4 (.int .u32 ((d + T1) % 4294967296))).set 0 (.int .u32 ((T1 + T2) % 4294967296))
                rw [shift_row] at HV
                exact HV
              case measure => simp [intOf]; omega
            · obtain rfl : k = 64 := by omega
              have HSUM : Hid (sumL (s.go KK WL 64).list SL 8 = RS) := Lib.hid (by rw [HROUND.out, ← sumL_all', hSL.out])
              have HTL : Hid ((s.go KK WL 64).list.length = 8) := Lib.hid rfl
              have HSL8 : Hid (SL.length = 8) := Lib.hid (by rw [← hSL.out]; rfl)
              have HRL : Hid (RS.length = 8) := Lib.hid (by rw [HROUND.out]; rfl)
              clear HROUND HGO HWW HWL hsz8 hov
              generalize (s.go KK WL 64).list = TL at *
              rw [show ((64 : Nat) : Int) = 64 from rfl]
              have HLL := Lib.hid (fun n => show (sumL TL SL n).length = 8 by rw [sumL_length, HTL.out])
              go_wp2
              go_loopw [20] (fun i wr => ∃ k : Nat, k ≤ 8 ∧ i = .int .i64 k ∧ Hid (Nx w wr) ∧ Row wr w.heap.size (ints .u32 SL) 34 ∧ Row wr (w.heap.size + 1 + 1) (ints .u32 [0, 0, 0, 0, 0, 0, 0, 0]) 34 ∧ Row wr gV (ints .u32 (sumL TL SL k)) 34) (fun i _ => 8 - (intOf i).toNat)
              case atStart => exact ⟨0, by omega, rfl, HN, R0, R2, RV⟩
              case round =>
                clear HN R0 R1 R2 R3 RV
                obtain ⟨k, hk, rfl, HN, R0, R2, RV⟩ := hrel
                by_cases hlt : k < 8
                · have hk8 : (k : Int) < 8 := by omega
                  have hl1 : k < (sumL TL SL k).length := by rw [HLL.out]; exact hlt
                  have hl2 : k < SL.length := by rw [HSL8.out]; exact hlt
                  have c1' : wr.cell? ⟨gV, k, none⟩ = some (.int .u32 (TL.getD k 0)) := by
                    rw [RV.cell (ints_get .u32 _ k hl1), ← sumL_get TL SL k k (Nat.le_refl _), List.getD_eq_getElem?_getD, List.getElem?_eq_getElem hl1]; rfl
                  have c2' : wr.cell? ⟨w.heap.size, k, none⟩ = some (.int .u32 (SL.getD k 0)) := by
                    rw [R0.cell (ints_get .u32 _ k hl2), List.getD_eq_getElem?_getD, List.getElem?_eq_getElem hl2]; rfl
                  have fv := RV.frozen
                  have HE : Hid (sumL TL SL (k + 1) = (sumL TL SL k).set k ((TL.getD k 0 + SL.getD k 0) % 4294967296)) := Lib.hid rfl
                  clear HLL hl1 hl2 HSUM
                  generalize TL.getD k 0 = x at *
                  generalize SL.getD k 0 = y at *
                  have HXY : Hid (IntKind.u32.wrap (x + y) = (x + y) % 4294967296) := Lib.hid (IntKind.wrap_u32' _)
                  go_wp2
                  go_still_tail 8, (by kernel_rfl)
                  change wpList _ _ _ _ _ wr.drew
                  rw [HXY.out]
                  clear HXY
                  generalize (x + y) % 4294967296 = z at *
                  go_wp2
                  go_roundw
                  case rel =>
                    refine ⟨k + 1, by omega, by go_num, (HN.out.setAt _ hgw).drew, (R0.other _ _ _ hg0).drew, (R2.other _ _ _ hg2).drew, ?_⟩
                    rw [HE.out, ← ints_set]
                    exact (RV.set k _).drew
                  case measure => simp [intOf]; omega
                · obtain rfl : k = 8 := by omega
                  rw [HSUM.out] at RV
                  clear HSUM HLL HTL
                  have hz1 : (Tryd.prog.info? 34).map (·.size) = some (ints .u32 RS).size := by rw [ints_size, HRL.out]; kernel_rfl
                  replace hz1 := Lib.hid hz1
                  have ho : (ints .u32 [0, 0, 0, 0, 0, 0, 0, 0]).size = (ints .u32 RS).size := by rw [ints_size, ints_size, HRL.out]; rfl
                  replace ho := Lib.hid ho
                  have hl : w.heap.size ≤ w.heap.size + 1 + 1 := by omega
                  go_wp2_with (first | (refine wpList_load_row rfl 34 (.tmp 13) rfl gV rfl 34 (ints .u32 RS) (0, 0) _ RV Tryd.underlying34 rfl hz1.out ?_) | (refine wpList_store_row rfl 34 (.tmp 6) (.tmp 180) rfl (w.heap.size + 1 + 1) (ints .u32 RS) rfl rfl 34 (ints .u32 [0, 0, 0, 0, 0, 0, 0, 0]) R2 hz1.out ho.out (ints_one _ _) ?_))
                  exact bodyPost_ret (results_cell_row Tryd.results32 _ _ (w.heap.size + 1 + 1) 34 (ints .u32 RS) (0, 0) _ rfl (R2.setRow _) Tryd.underlying34 rfl hz1.out) rfl ⟨rfl, HN.out.setRow _ hl⟩
end Go.Proofs.YtpgdfboogjapeaaDoor
