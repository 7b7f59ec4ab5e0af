/- TEXTS OF OUR OWN, IN ONE FILE. -/
import Derived.Test.YtpkopigiijiiiaaDoorTk
import Derived.Test.YtpkopigiijiiiaaDoorTb
import Derived.Test.YtpkopigiijiiiaaDoorTj
import Derived.Test.YtpkopigiijiiiaaDoorRows
import Derived.MakeChecks
section
namespace Go.Proofs.YtpkopigiijiiiaaDoor
open Go.RowKit
set_option linter.unusedVariables false
set_option linter.unusedSimpArgs false

set_option maxHeartbeats 400000 in
theorem rturn_st (x m : Int) (n : Nat) (hm : m = n) (h : Wd x) (hn : n ≤ 32) (w : World) :
    Calls Tryd.prog 44 #[.int .u32 x, .int .u64 m] w fun e w' => e = .returned (.int .u32 (rotI x n)) ∧ w' = w := by
  obtain ⟨h0, h1⟩ := h
  subst hm
  have hn0 : (0 : Int) ≤ (n : Int) := by omega
  have hn1 : (n : Int) ≤ 32 := by omega
  go_enter Tryd.func44, Tryd.ntmps44
  go_wp2
  go_ret
  exact ⟨rfl, rfl⟩
theorem rturn_any (x m : Int) (n : Nat) (w : World) (hm : m = n) (h : Wd x) (hn : n ≤ 32) :
    Calls Tryd.prog 44 #[.int .u32 x, .int .u64 m] w fun e w' => e = .returned (.int .u32 (rotI x n)) ∧ w = w' := (rturn_st x m n hm h hn w).mono fun _ _ h => ⟨h.1, h.2.symm⟩
theorem rturn_q (x m : Int) (n : Nat) (hm : m = n) (h : Wd x) (hn : n ≤ 32) (w : World) (k : Nat) :
    Calls Tryd.prog 44 #[.int .u32 x, .int .u64 m] (w.drewN k) fun e w' => e = .returned (.int .u32 (rotI x n)) ∧ ∃ j, w' = w.drewN j := (rturn_st x m n hm h hn _).mono fun _ _ h => ⟨h.1, k, h.2⟩

theorem rturn_q2 (x m : Int) (n : Nat) (hm : m = n) (h : Wd x) (hn : n ≤ 32) (w : World) (a k : Nat) :
    Calls Tryd.prog 44 #[.int .u32 x, .int .u64 m] (w.drewN (a + k)) fun e w' => e = .returned (.int .u32 (rotI x n)) ∧ ∃ j, w' = w.drewN (a + j) := (rturn_st x m n hm h hn _).mono fun _ _ h => ⟨h.1, k, h.2⟩

theorem wp_gen2 {P : Program} {c : Code} {Q : Exit → Act → World → Prop} {a : Act} {wr : World} (m n : Nat) (h : ∀ W, (∃ m n, W = (wr.drewN m).drewN n) → c.wp P Q a W) : c.wp P Q a ((wr.drewN m).drewN n) := h _ ⟨m, n, rfl⟩
theorem shift_row (a b c d e f g h x y : Value) :
    (((((((((#[a, b, c, d, e, f, g, h] : Array Value).setIfInBounds 7 g).setIfInBounds 6 f).setIfInBounds 5 e).setIfInBounds 4 d).setIfInBounds 3 c).setIfInBounds 2 b).setIfInBounds 1 a).setIfInBounds 4 y).setIfInBounds 0 x = #[x, a, b, c, y, e, f, g] := by kernel_rfl
theorem mul_byte (w x : Nat) (hw : w < 16777216) (hx : x < 256) : IntKind.u32.wrap (IntKind.u32.wrap (256 * (w : Int)) + (x : Int)) = ((256 * w + x : Nat) : Int) := by
  simp only [IntKind.wrap_u32']; omega

set_option maxRecDepth 100000 in
set_option maxHeartbeats 4000000 in
theorem rround_any (s : St) (B : List UInt8) (vb : Value) (w : World) (hs : s.ok) (hB : B.length = 64) (hr : Rd w vb B) :
    Calls Tryd.prog 41 #[.agg (ints .u32 s.list), vb, .agg (ints .u32 kL)] w fun e w' => e = .returned (.agg (ints .u32 (s.round B).list)) ∧ Nx w w' := by
  obtain ⟨hz, hzs⟩ := zero_of_info info_w64
  have HF := Lib.hid (firstL_zero B)
  have HZ : Hid ((List.replicate 64 (0 : Int)).length = 64) := Lib.hid List.length_replicate
  generalize List.replicate 64 (0 : Int) = Z at *
  obtain ⟨A, c, rfl, hc, hm, ha⟩ := hr
  obtain ⟨b, o, rfl, hb, hcell⟩ := ha (by omega)
  rw [hB] at hc ⊢
  have HC := Lib.hid hcell
  have HBL := Lib.hid hB
  have HB := Lib.hid hb
  have HWD := Lib.hid (fun n => schedL_wd B hB n)
  have HOK := Lib.hid hs
  have HKL : Hid (kL.length = 64) := Lib.hid kL_length
  have HROUND : Hid ((s.round B).list = (s.add (s.go kL (wordsL B) 64)).list) := Lib.hid rfl
  obtain ⟨RS, hRS⟩ : ∃ RS, (s.round B).list = RS := ⟨_, rfl⟩
  rw [hRS] at HROUND ⊢
  clear hRS ha hcell hB hb hs
  obtain ⟨KK, hKK⟩ : ∃ KK, kL = KK := ⟨_, rfl⟩
  rw [hKK] at HROUND HKL ⊢
  replace hKK := Lib.hid hKK
  go_enter Tryd.func41, Tryd.ntmps41
  go_wp2
  replace hz := Lib.hid hz
  replace hzs := Lib.hid hzs
  go_loopw [8] (fun i wr => ∃ k : Nat, k ≤ 16 ∧ i = .int .i64 k ∧ Hid (Nx w wr) ∧ Row wr w.heap.size (ints .u32 s.list) 55 ∧ Row wr (w.heap.size + 1) (ints .u32 KK) 63 ∧ Row wr (w.heap.size + 1 + 1) (ints .u32 [0, 0, 0, 0, 0, 0, 0, 0]) 55 ∧ Row wr (w.heap.size + 1 + 1 + 1) (ints .u32 (firstL B (4 * k))) 63) (fun i _ => 16 - (intOf i).toNat)
  case atStart =>
    refine ⟨0, by omega, rfl, ((((Nx.refl w).alloc _).alloc _).alloc _).alloc _, (((Row.new _ _ _ _ rfl).alloc _).alloc _).alloc _, ((Row.new2 _ _ _ _).alloc _).alloc _, (Row.new3 _ _ _ _ _).alloc _, ?_⟩
    rw [Nat.mul_zero, HF.out]
    exact Row.new _ _ _ _ (by simp)
  case round =>
    obtain ⟨k, hk, rfl, HN, R0, R1, R2, R3⟩ := hrel
    by_cases hlt : k < 16
    · have hk16 : (k : Int) < 16 := by omega
      go_wp2
      go_loopw [9] (fun j wr => ∃ m : Nat, m ≤ 4 ∧ j = .int .i64 m ∧ Hid (Nx w wr) ∧ Row wr w.heap.size (ints .u32 s.list) 55 ∧ Row wr (w.heap.size + 1) (ints .u32 KK) 63 ∧ Row wr (w.heap.size + 1 + 1) (ints .u32 [0, 0, 0, 0, 0, 0, 0, 0]) 55 ∧ Row wr (w.heap.size + 1 + 1 + 1) (ints .u32 (firstL B (4 * k + m))) 63) (fun j _ => 4 - (intOf j).toNat)
      case atStart => exact ⟨0, by omega, rfl, HN, R0, R1, R2, R3⟩
      case round =>
        clear HN R0 R1 R2 R3
        obtain ⟨m, hm4, rfl, HN, R0, R1, R2, R3⟩ := hrel
        by_cases hmt : m < 4
        · have hkl : 4 * k + m < B.length := by have := HBL.out; omega
          have HS := Lib.hid (firstL_set B (4 * k + m) hkl (by rw [HBL.out]; decide))
          have HP := Lib.hid (beN_part_lt B (4 * k + m) hkl)
          have HQ := Lib.hid (firstL_get B (4 * k + m) k (by omega))
          have hq : (4 * k + m) / 4 = k := by omega
          rw [hq] at HS HP
          have c2 : wr.cell? ⟨w.heap.size + 1 + 1 + 1, k, none⟩ = some (.int .u32 ((beN (cutB B (4 * k + m) k) : Nat) : Int)) := by
            have := R3.cell (ints_get .u32 (firstL B (4 * k + m)) k (by rw [firstL_length]; omega))
            rw [this, HQ.out]
          have cb : wr.cell? ⟨b, o + (4 * k + m), none⟩ = some (bv (B[4 * k + m])) := by
            rw [HN.out.cell (p := ⟨b, o + (4 * k + m), none⟩) HB.out]
            exact HC.out (4 * k + m) hkl
          have f2 := R3.frozen
          have HO := Lib.hid (mul_byte (beN (cutB B (4 * k + m) k)) (B[4 * k + m]).toNat HP.out (B[4 * k + m]).toNat_lt)
          have hx0 : IntKind.u32.wrap ((B[4 * k + m]).toNat : Int) = ((B[4 * k + m]).toNat : Int) := IntWalk.u32_in _ (by have := (B[4 * k + m]).toNat_lt; omega)
          clear hq HQ HP
          generalize beN (cutB B (4 * k + m) k) = v at *
          generalize B[4 * k + m] = x at *
          have hw1 : IntKind.i64.wrap (4 * (k : Int)) = 4 * (k : Int) := IntWalk.i64_in _ (by omega)
          have hw2 : IntKind.i64.wrap (4 * (k : Int) + (m : Int)) = 4 * (k : Int) + (m : Int) := IntWalk.i64_in _ (by omega)
          have hw3 : (0 : Int) ≤ 4 * (k : Int) + (m : Int) := by omega
          have hw4 : 4 * (k : Int) + (m : Int) < 64 := by omega
          have hw5 : (4 * (k : Int) + (m : Int)).toNat = 4 * k + m := by omega
          have hw6 : (k : Int) < 64 := by omega
          go_wp2
          go_still_tail 14, (by kernel_rfl)
          change wpList _ _ _ _ _ wr.drew
          rw [HO.out]
          clear HO
          generalize 256 * v + x.toNat = z at *
          go_wp2
          go_roundw
          case rel =>
            refine ⟨m + 1, by omega, by go_num, (HN.out.setAt _ (by omega)).drew, (R0.other _ _ _ (by omega)).drew, (R1.other _ _ _ (by omega)).drew, (R2.other _ _ _ (by omega)).drew, ?_⟩
            rw [← Nat.add_assoc, ← HS.out, ← ints_set]
            exact (R3.set k _).drew
          case measure => simp [intOf]; omega
        · obtain rfl : m = 4 := by omega
          go_wp2
          go_roundw
          case rel => exact ⟨k + 1, by omega, by go_num, HN, R0, R1, R2, by rw [Nat.mul_add, Nat.mul_one]; exact R3⟩
          case measure => simp [intOf]; omega
    · obtain rfl : k = 16 := by omega
      have e0 : firstL B (4 * 16) = schedL B 0 := rfl
      rw [e0] at R3
      clear e0 HF HC HB
      rw [show ((16 : Nat) : Int) = 16 from rfl]
      go_wp2
      go_loopw [10] (fun i wr => ∃ k n : Nat, k = 16 + n ∧ k ≤ 64 ∧ i = .int .i64 k ∧ Hid (Nx w wr) ∧ Row wr w.heap.size (ints .u32 s.list) 55 ∧ Row wr (w.heap.size + 1) (ints .u32 KK) 63 ∧ Row wr (w.heap.size + 1 + 1) (ints .u32 [0, 0, 0, 0, 0, 0, 0, 0]) 55 ∧ Row wr (w.heap.size + 1 + 1 + 1) (ints .u32 (schedL B n)) 63) (fun i _ => 64 - (intOf i).toNat)
      case atStart => exact ⟨16, 0, rfl, by omega, rfl, HN, R0, R1, R2, R3⟩
      case round =>
        clear HN R0 R1 R2 R3
        obtain ⟨k, n, hkn, hk, rfl, HN, R0, R1, R2, R3⟩ := hrel
        replace hkn := Lib.hid hkn
        by_cases hlt : k < 64
        · have HE : Hid (schedL B (n + 1) = (schedL B n).set k (ext (schedL B n) k)) := Lib.hid (by rw [hkn.out]; rfl)
          have HL := Lib.hid (schedL_length B n)
          have HWN := Lib.hid (HWD.out n)
          clear HWD HROUND
          generalize schedL B n = L at *
          have hk16 : 16 ≤ k := by have := hkn.out; omega
          obtain ⟨p16, h16⟩ : ∃ p : Nat, (k : Int) - 16 = (p : Int) := ⟨k - 16, by omega⟩
          obtain ⟨p15, h15⟩ : ∃ p : Nat, (k : Int) - 15 = (p : Int) := ⟨k - 15, by omega⟩
          obtain ⟨p7, h7⟩ : ∃ p : Nat, (k : Int) - 7 = (p : Int) := ⟨k - 7, by omega⟩
          obtain ⟨p2, h2⟩ : ∃ p : Nat, (k : Int) - 2 = (p : Int) := ⟨k - 2, by omega⟩
          have HX : Hid (ext L k = (L.getD p16 0 + s0 (L.getD p15 0) + L.getD p7 0 + s1 (L.getD p2 0)) % 4294967296) := by
            rw [show p16 = k - 16 by omega, show p15 = k - 15 by omega, show p7 = k - 7 by omega, show p2 = k - 2 by omega]; exact Lib.hid rfl
          have hc : ∀ p, p < 64 → wr.cell? ⟨w.heap.size + 1 + 1 + 1, p, none⟩ = some (.int .u32 (L.getD p 0)) := fun p hp => by
            have hp2 : p < L.length := by rw [HL.out]; exact hp
            rw [R3.cell (ints_get .u32 L p hp2), List.getD_eq_getElem?_getD, List.getElem?_eq_getElem hp2]; rfl
          have c16 := hc p16 (by omega)
          have c15 := hc p15 (by omega)
          have c7 := hc p7 (by omega)
          have c2 := hc p2 (by omega)
          have ck := hc k hlt
          have f3 := R3.frozen
          clear hc
          have d16 := HWN.out p16
          have d15 := Lib.hid (HWN.out p15)
          have d7 := HWN.out p7
          have d2 := Lib.hid (HWN.out p2)
          have q16 : p16 < 64 := by omega
          have q15 : p15 < 64 := by omega
          have q7 : p7 < 64 := by omega
          have q2 : p2 < 64 := by omega
          generalize L.getD k 0 = yk at *
          generalize L.getD p16 0 = y16 at *
          generalize L.getD p15 0 = y15 at *
          generalize L.getD p7 0 = y7 at *
          generalize L.getD p2 0 = y2 at *
          have w16 : IntKind.i64.wrap ((k : Int) - 16) = (p16 : Int) := by rw [h16]; exact IntWalk.i64_in _ (by omega)
          have w15 : IntKind.i64.wrap ((k : Int) - 15) = (p15 : Int) := by rw [h15]; exact IntWalk.i64_in _ (by omega)
          have w7 : IntKind.i64.wrap ((k : Int) - 7) = (p7 : Int) := by rw [h7]; exact IntWalk.i64_in _ (by omega)
          have w2 : IntKind.i64.wrap ((k : Int) - 2) = (p2 : Int) := by rw [h2]; exact IntWalk.i64_in _ (by omega)
          have b16 : (p16 : Int) < 64 := by omega
          have b7 : (p7 : Int) < 64 := by omega
          have v16 : IntKind.i64.wrap (p16 : Int) = (p16 : Int) := IntWalk.i64_in _ (by omega)
          have v7 : IntKind.i64.wrap (p7 : Int) = (p7 : Int) := IntWalk.i64_in _ (by omega)
          go_wp2
          go_quiet (fail)
          go_wp2
          have r9 : 0 ≤ s0 y15 ∧ s0 y15 < 4294967296 := u32_range _ _ _
          have r10 : 0 ≤ s1 y2 ∧ s1 y2 < 4294967296 := u32_range _ _ _
          have HW3 : Hid (IntKind.u32.wrap (IntKind.u32.wrap (IntKind.u32.wrap (y16 + s0 y15) + y7) + s1 y2) = ext L k) := Lib.hid (by rw [HX.out]; simp only [IntKind.wrap_u32']; omega)
          clear HX r9 r10
          replace HN : Hid (Nx w (wr.drewN nq)) := HN.out.drewN nq
          replace R0 := R0.drewN nq
          replace R1 := R1.drewN nq
          replace R2 := R2.drewN nq
          replace R3 := R3.drewN nq
          replace c16 : (wr.drewN nq).cell? _ = _ := c16
          replace c7 : (wr.drewN nq).cell? _ = _ := c7
          replace ck : (wr.drewN nq).cell? _ = _ := ck
          replace f3 := R3.frozen
          clear c15 c2
          generalize wr.drewN nq = wq at *
          refine wp_region_still_tail 28 (by kernel_rfl) (by kernel_rfl) ?_
          simp only [List.take_succ_cons, List.take_zero, List.drop_succ_cons, List.drop_zero]
          repeat (first | still_step | (refine wpStill_step (fun K hK => ?_); go_simp; (with_reducible refine ⟨_, rturn_st y15 7 7 rfl d15.out (by decide) _, hK _ ?_⟩); clear hK K) | (refine wpStill_step (fun K hK => ?_); go_simp; (with_reducible refine ⟨_, rturn_st y15 18 18 rfl d15.out (by decide) _, hK _ ?_⟩); clear hK K) | (refine wpStill_step (fun K hK => ?_); go_simp; (with_reducible refine ⟨_, rturn_st y2 17 17 rfl d2.out (by decide) _, hK _ ?_⟩); clear hK K) | (refine wpStill_step (fun K hK => ?_); go_simp; (with_reducible refine ⟨_, rturn_st y2 19 19 rfl d2.out (by decide) _, hK _ ?_⟩); clear hK K))
          refine wpStill_nil ?_
          change wpList _ _ _ _ _ wq.drew
          have e9 : bits .xor .u32 (bits .xor .u32 (rotI y15 7) (rotI y15 18)) (y15 / 8) = s0 y15 := rfl
          have e10 : bits .xor .u32 (bits .xor .u32 (rotI y2 17) (rotI y2 19)) (y2 / 1024) = s1 y2 := rfl
          rw [e9, e10, HW3.out]
          clear e9 e10 HW3
          generalize ext L k = xx at *
          go_wp2
          go_roundw
          case rel =>
            refine ⟨k + 1, n + 1, by have := hkn.out; omega, by omega, by go_num, (HN.out.setAt _ (by omega)).drew, (R0.other _ _ _ (by omega)).drew, (R1.other _ _ _ (by omega)).drew, (R2.other _ _ _ (by omega)).drew, ?_⟩
            rw [HE.out, ← ints_set]
            exact (R3.set k _).drew
          case measure => simp [intOf]; omega
        · obtain rfl : k = 64 := by omega
          obtain rfl : n = 48 := by have := hkn.out; omega
          rw [show schedL B 48 = wordsL B from rfl] at R3
          rw [show ((64 : Nat) : Int) = 64 from rfl]
          have HWL : Hid ((wordsL B).length = 64) := Lib.hid (schedL_length B 48)
          have HWW : Hid (WdL (wordsL B)) := Lib.hid (HWD.out 48)
          clear HWD
          obtain ⟨WL, hWL⟩ : ∃ WL, wordsL B = WL := ⟨_, rfl⟩
          rw [hWL] at HWL HWW R3 HROUND
          clear hWL hkn
          have hsz8 : (Tryd.prog.info? 55).map (·.size) = some (ints .u32 s.list).size := by rw [ints_size]; kernel_rfl
          replace hsz8 := Lib.hid hsz8
          have hov : (ints .u32 [0, 0, 0, 0, 0, 0, 0, 0]).size = (ints .u32 s.list).size := by rw [ints_size, ints_size]; rfl
          replace hov := Lib.hid hov
          have HGO := Lib.hid (fun n => St.ok.go HOK.out KK WL n)
          obtain ⟨SL, hSL⟩ : ∃ SL, s.list = SL := ⟨_, rfl⟩
          rw [hSL] at R0 hsz8 hov ⊢
          replace hSL := Lib.hid hSL
          have RN := Row.new wr (ints .u32 [0, 0, 0, 0, 0, 0, 0, 0]) 55 _ rfl
          go_wp2_with (first | (refine wpList_load_row rfl 55 (.tmp 3) rfl w.heap.size rfl 55 (ints .u32 SL) (0, 0) _ R0 Tryd.underlying55 rfl hsz8.out ?_) | (refine wpList_store_row rfl 55 (.tmp 13) (.tmp 85) rfl wr.heap.size (ints .u32 SL) rfl rfl 55 (ints .u32 [0, 0, 0, 0, 0, 0, 0, 0]) RN hsz8.out hov.out (ints_one _ _) ?_))
          have hW4 : Nx wr ((wr.alloc (.cells (ints .u32 [0, 0, 0, 0, 0, 0, 0, 0]) 55)).setRow wr.heap.size (ints .u32 SL)) := ((Nx.refl wr).alloc _).setRow _ (Nat.le_refl _)
          have hg0 : w.heap.size ≠ wr.heap.size := Nat.ne_of_lt R0.lt
          have hg1 : w.heap.size + 1 ≠ wr.heap.size := Nat.ne_of_lt R1.lt
          have hg2 : w.heap.size + 1 + 1 ≠ wr.heap.size := Nat.ne_of_lt R2.lt
          have hg3 : w.heap.size + 1 + 1 + 1 ≠ wr.heap.size := Nat.ne_of_lt R3.lt
          have hgw : w.heap.size ≤ wr.heap.size := HN.out.size
          have HN4 := Lib.hid (HN.out.trans hW4)
          have R04 := R0.nx hW4
          have R14 := R1.nx hW4
          have R24 := R2.nx hW4
          have R34 := R3.nx hW4
          have RV4 := RN.setRow (ints .u32 SL)
          clear HN R0 R1 R2 R3 RN hW4
          change Code.wp _ _ _ _ ((wr.alloc (.cells (ints .u32 [0, 0, 0, 0, 0, 0, 0, 0]) 55)).setRow wr.heap.size (ints .u32 SL))
          generalize ((wr.alloc (.cells (ints .u32 [0, 0, 0, 0, 0, 0, 0, 0]) 55)).setRow wr.heap.size (ints .u32 SL)) = W4 at *
          generalize wr.heap.size = gV at *
          go_loopw [14] (fun i wr => ∃ k : Nat, k ≤ 64 ∧ i = .int .i64 k ∧ Hid (Nx w wr) ∧ Row wr w.heap.size (ints .u32 SL) 55 ∧ Row wr (w.heap.size + 1) (ints .u32 KK) 63 ∧ Row wr (w.heap.size + 1 + 1) (ints .u32 [0, 0, 0, 0, 0, 0, 0, 0]) 55 ∧ Row wr (w.heap.size + 1 + 1 + 1) (ints .u32 WL) 63 ∧ Row wr gV (ints .u32 (s.go KK WL k).list) 55) (fun i _ => 64 - (intOf i).toNat)
          case atStart =>
            refine ⟨0, by omega, rfl, HN4, R04, R14, R24, R34, ?_⟩
            rw [show (s.go KK WL 0).list = s.list from rfl, hSL.out]
            exact RV4
          case round =>
            clear HN4 R04 R14 R24 R34 RV4
            obtain ⟨k, hk, rfl, HN, R0, R1, R2, R3, RV⟩ := hrel
            by_cases hlt : k < 64
            · have hk64 : (k : Int) < 64 := by omega
              have hst : Hid (s.go KK WL (k + 1) = (s.go KK WL k).step (KK.getD k 0) (WL.getD k 0)) := Lib.hid rfl
              have ckk : wr.cell? ⟨w.heap.size + 1, k, none⟩ = some (.int .u32 (KK.getD k 0)) := by
                have hp2 : k < KK.length := by rw [HKL.out]; exact hlt
                rw [R1.cell (ints_get .u32 KK k hp2), List.getD_eq_getElem?_getD, List.getElem?_eq_getElem hp2]; rfl
              have cww : wr.cell? ⟨w.heap.size + 1 + 1 + 1, k, none⟩ = some (.int .u32 (WL.getD k 0)) := by
                have hp2 : k < WL.length := by rw [HWL.out]; exact hlt
                rw [R3.cell (ints_get .u32 WL k hp2), List.getD_eq_getElem?_getD, List.getElem?_eq_getElem hp2]; rfl
              have HO := HGO.out k
              clear HGO HROUND
              generalize s.go KK WL k = t at *
              generalize KK.getD k 0 = kk at *
              generalize WL.getD k 0 = x at *
              obtain ⟨oa, ob, oc, od, oe, of, og, oh⟩ := HO
              replace oa := Lib.hid oa
              replace oe := Lib.hid oe
              clear ob oc od of og oh
              obtain ⟨a, b1, c1, d, e, f, g, h8⟩ := t
              replace RV : Row wr gV #[.int .u32 a, .int .u32 b1, .int .u32 c1, .int .u32 d, .int .u32 e, .int .u32 f, .int .u32 g, .int .u32 h8] 55 := RV
              have v0 : wr.cell? ⟨gV, 0, none⟩ = some (.int .u32 a) := RV.cell rfl
              have v1 : wr.cell? ⟨gV, 1, none⟩ = some (.int .u32 b1) := RV.cell rfl
              have v2 : wr.cell? ⟨gV, 2, none⟩ = some (.int .u32 c1) := RV.cell rfl
              have v3 : wr.cell? ⟨gV, 3, none⟩ = some (.int .u32 d) := RV.cell rfl
              have v4 : wr.cell? ⟨gV, 4, none⟩ = some (.int .u32 e) := RV.cell rfl
              have v5 : wr.cell? ⟨gV, 5, none⟩ = some (.int .u32 f) := RV.cell rfl
              have v6 : wr.cell? ⟨gV, 6, none⟩ = some (.int .u32 g) := RV.cell rfl
              have v7 : wr.cell? ⟨gV, 7, none⟩ = some (.int .u32 h8) := RV.cell rfl
              have fv := RV.frozen
              have HX1 : Hid (bits .xor .u32 (bits .xor .u32 (rotI e 6) (rotI e 11)) (rotI e 25) = bits .xor .u32 (bits .xor .u32 (rotI e 6) (rotI e 11)) (rotI e 25)) := Lib.hid rfl
              go_wp2
              go_quiet (fail)
              go_wp2
              go_quiet ((go_at_call 44; (with_reducible first | exact rturn_q2 e 6 6 rfl oe.out (by decide) _ _ _ | exact rturn_q2 e 11 11 rfl oe.out (by decide) _ _ _ | exact rturn_q2 e 25 25 rfl oe.out (by decide) _ _ _)))
              go_wp2
              go_quiet ((go_at_call 44; (with_reducible first | exact rturn_q2 a 2 2 rfl oa.out (by decide) _ _ _ | exact rturn_q2 a 13 13 rfl oa.out (by decide) _ _ _ | exact rturn_q2 a 22 22 rfl oa.out (by decide) _ _ _)))
              go_wp2
              have eT1 : (h8 + bits .xor .u32 (bits .xor .u32 (rotI e 6) (rotI e 11)) (rotI e 25) + bits .xor .u32 (bits .and .u32 e f) (bits .and .u32 (bits .xor .u32 IntKind.u32.max e) g) + kk + x) % 4294967296 = t1 e f g h8 kk x := rfl
              have eT2 : (bits .xor .u32 (bits .xor .u32 (rotI a 2) (rotI a 13)) (rotI a 22) + bits .xor .u32 (bits .xor .u32 (bits .and .u32 a b1) (bits .and .u32 a c1)) (bits .and .u32 b1 c1)) % 4294967296 = t2 a b1 c1 := rfl
              rw [eT1, eT2]
              clear eT1 eT2 HX1
              have hst2 : Hid (s.go KK WL (k + 1) = ⟨(t1 e f g h8 kk x + t2 a b1 c1) % 4294967296, a, b1, c1, (d + t1 e f g h8 kk x) % 4294967296, e, f, g⟩) := Lib.hid hst.out
              clear hst
              generalize t1 e f g h8 kk x = T1 at *
              generalize t2 a b1 c1 = T2 at *
              refine wp_gen2 _ _ ?_
              rintro wq ⟨m1, n1, hwq⟩
              have HNq : Hid (Nx w wq) := Lib.hid (by rw [hwq]; exact (HN.out.drewN _).drewN _)
              have R0q : Row wq w.heap.size (ints .u32 SL) 55 := by rw [hwq]; exact R0
              have R1q : Row wq (w.heap.size + 1) (ints .u32 KK) 63 := by rw [hwq]; exact R1
              have R2q : Row wq (w.heap.size + 1 + 1) (ints .u32 [0, 0, 0, 0, 0, 0, 0, 0]) 55 := by rw [hwq]; exact R2
              have R3q : Row wq (w.heap.size + 1 + 1 + 1) (ints .u32 WL) 63 := by rw [hwq]; exact R3
              have RVq : Row wq gV #[.int .u32 a, .int .u32 b1, .int .u32 c1, .int .u32 d, .int .u32 e, .int .u32 f, .int .u32 g, .int .u32 h8] 55 := by rw [hwq]; exact RV
              clear v0 v1 v2 v3 v4 v5 v6 v7 fv ckk cww HN R0 R1 R2 R3 RV hwq
              have v0 : wq.cell? ⟨gV, 0, none⟩ = some (.int .u32 a) := RVq.cell rfl
              have v1 : wq.cell? ⟨gV, 1, none⟩ = some (.int .u32 b1) := RVq.cell rfl
              have v2 : wq.cell? ⟨gV, 2, none⟩ = some (.int .u32 c1) := RVq.cell rfl
              have v3 : wq.cell? ⟨gV, 3, none⟩ = some (.int .u32 d) := RVq.cell rfl
              have v4 : wq.cell? ⟨gV, 4, none⟩ = some (.int .u32 e) := RVq.cell rfl
              have v5 : wq.cell? ⟨gV, 5, none⟩ = some (.int .u32 f) := RVq.cell rfl
              have v6 : wq.cell? ⟨gV, 6, none⟩ = some (.int .u32 g) := RVq.cell rfl
              have v7 : wq.cell? ⟨gV, 7, none⟩ = some (.int .u32 h8) := RVq.cell rfl
              have fv := RVq.frozen
              refine wp_loop_rounds 8 ?_
              rw [rounds_succ]
              go_wp2
              rw [rounds_succ]
              go_wp2
              rw [rounds_succ]
              go_wp2
              rw [rounds_succ]
              go_wp2
              rw [rounds_succ]
              go_wp2
              rw [rounds_succ]
              go_wp2
              rw [rounds_succ]
              go_wp2
              rw [rounds_succ]
              go_wp2
              go_roundw
              case rel =>
                refine ⟨k + 1, by omega, by go_num, ((((((((HNq.out.setAt _ hgw).setAt _ hgw).setAt _ hgw).setAt _ hgw).setAt _ hgw).setAt _ hgw).setAt _ hgw).setAt _ hgw).setAt _ hgw, ((((((((R0q.other _ 7 _ hg0).other _ 6 _ hg0).other _ 5 _ hg0).other _ 4 _ hg0).other _ 3 _ hg0).other _ 2 _ hg0).other _ 1 _ hg0).other _ 4 _ hg0).other _ 0 _ hg0, ((((((((R1q.other _ 7 _ hg1).other _ 6 _ hg1).other _ 5 _ hg1).other _ 4 _ hg1).other _ 3 _ hg1).other _ 2 _ hg1).other _ 1 _ hg1).other _ 4 _ hg1).other _ 0 _ hg1, ((((((((R2q.other _ 7 _ hg2).other _ 6 _ hg2).other _ 5 _ hg2).other _ 4 _ hg2).other _ 3 _ hg2).other _ 2 _ hg2).other _ 1 _ hg2).other _ 4 _ hg2).other _ 0 _ hg2, ((((((((R3q.other _ 7 _ hg3).other _ 6 _ hg3).other _ 5 _ hg3).other _ 4 _ hg3).other _ 3 _ hg3).other _ 2 _ hg3).other _ 1 _ hg3).other _ 4 _ hg3).other _ 0 _ hg3, ?_⟩
                rw [hst2.out]
                have HV := ((((((((RVq.set 7 (.int .u32 g)).set 6 (.int .u32 f)).set 5 (.int .u32 e)).set 4 (.int .u32 d)).set 3 (.int .u32 c1)).set 2 (.int .u32 b1)).set 1 (.int .u32 a)).set 4 (.int .u32 ((d + T1) % 4294967296))).set 0 (.int .u32 ((T1 + T2) % 4294967296))
                rw [shift_row] at HV
                exact HV
              case measure => simp [intOf]; omega
            · obtain rfl : k = 64 := by omega
              have HSUM : Hid (sumL (s.go KK WL 64).list SL 8 = RS) := Lib.hid (by rw [HROUND.out, ← sumL_all', hSL.out])
              have HTL : Hid ((s.go KK WL 64).list.length = 8) := Lib.hid rfl
              have HSL8 : Hid (SL.length = 8) := Lib.hid (by rw [← hSL.out]; rfl)
              have HRL : Hid (RS.length = 8) := Lib.hid (by rw [HROUND.out]; rfl)
              clear HROUND HGO HWW HWL hsz8 hov
              generalize (s.go KK WL 64).list = TL at *
              rw [show ((64 : Nat) : Int) = 64 from rfl]
              have HLL := Lib.hid (fun n => show (sumL TL SL n).length = 8 by rw [sumL_length, HTL.out])
              go_wp2
              go_loopw [20] (fun i wr => ∃ k : Nat, k ≤ 8 ∧ i = .int .i64 k ∧ Hid (Nx w wr) ∧ Row wr w.heap.size (ints .u32 SL) 55 ∧ Row wr (w.heap.size + 1 + 1) (ints .u32 [0, 0, 0, 0, 0, 0, 0, 0]) 55 ∧ Row wr gV (ints .u32 (sumL TL SL k)) 55) (fun i _ => 8 - (intOf i).toNat)
              case atStart => exact ⟨0, by omega, rfl, HN, R0, R2, RV⟩
              case round =>
                clear HN R0 R1 R2 R3 RV
                obtain ⟨k, hk, rfl, HN, R0, R2, RV⟩ := hrel
                by_cases hlt : k < 8
                · have hk8 : (k : Int) < 8 := by omega
                  have hl1 : k < (sumL TL SL k).length := by rw [HLL.out]; exact hlt
                  have hl2 : k < SL.length := by rw [HSL8.out]; exact hlt
                  have c1' : wr.cell? ⟨gV, k, none⟩ = some (.int .u32 (TL.getD k 0)) := by
                    rw [RV.cell (ints_get .u32 _ k hl1), ← sumL_get TL SL k k (Nat.le_refl _), List.getD_eq_getElem?_getD, List.getElem?_eq_getElem hl1]; rfl
                  have c2' : wr.cell? ⟨w.heap.size, k, none⟩ = some (.int .u32 (SL.getD k 0)) := by
                    rw [R0.cell (ints_get .u32 _ k hl2), List.getD_eq_getElem?_getD, List.getElem?_eq_getElem hl2]; rfl
                  have fv := RV.frozen
                  have HE : Hid (sumL TL SL (k + 1) = (sumL TL SL k).set k ((TL.getD k 0 + SL.getD k 0) % 4294967296)) := Lib.hid rfl
                  clear HLL hl1 hl2 HSUM
                  generalize TL.getD k 0 = x at *
                  generalize SL.getD k 0 = y at *
                  have HXY : Hid (IntKind.u32.wrap (x + y) = (x + y) % 4294967296) := Lib.hid (IntKind.wrap_u32' _)
                  go_wp2
                  go_still_tail 8, (by kernel_rfl)
                  change wpList _ _ _ _ _ wr.drew
                  rw [HXY.out]
                  clear HXY
                  generalize (x + y) % 4294967296 = z at *
                  go_wp2
                  go_roundw
                  case rel =>
                    refine ⟨k + 1, by omega, by go_num, (HN.out.setAt _ hgw).drew, (R0.other _ _ _ hg0).drew, (R2.other _ _ _ hg2).drew, ?_⟩
                    rw [HE.out, ← ints_set]
                    exact (RV.set k _).drew
                  case measure => simp [intOf]; omega
                · obtain rfl : k = 8 := by omega
                  rw [HSUM.out] at RV
                  clear HSUM HLL HTL
                  have hz1 : (Tryd.prog.info? 55).map (·.size) = some (ints .u32 RS).size := by rw [ints_size, HRL.out]; kernel_rfl
                  replace hz1 := Lib.hid hz1
                  have ho : (ints .u32 [0, 0, 0, 0, 0, 0, 0, 0]).size = (ints .u32 RS).size := by rw [ints_size, ints_size, HRL.out]; rfl
                  replace ho := Lib.hid ho
                  have hl : w.heap.size ≤ w.heap.size + 1 + 1 := by omega
                  go_wp2_with (first | (refine wpList_load_row rfl 55 (.tmp 13) rfl gV rfl 55 (ints .u32 RS) (0, 0) _ RV Tryd.underlying55 rfl hz1.out ?_) | (refine wpList_store_row rfl 55 (.tmp 6) (.tmp 180) rfl (w.heap.size + 1 + 1) (ints .u32 RS) rfl rfl 55 (ints .u32 [0, 0, 0, 0, 0, 0, 0, 0]) R2 hz1.out ho.out (ints_one _ _) ?_))
                  exact bodyPost_ret (results_cell_row Tryd.results41 _ _ (w.heap.size + 1 + 1) 55 (ints .u32 RS) (0, 0) _ rfl (R2.setRow _) Tryd.underlying55 rfl hz1.out) rfl ⟨rfl, HN.out.setRow _ hl⟩
end Go.Proofs.YtpkopigiijiiiaaDoor
end

section
namespace Go.Proofs.YtpkopigiijiiiaaDoor
open Go.RowKit
set_option linter.unusedVariables false
set_option linter.unusedSimpArgs false

theorem beR_get (n : Nat) : ∀ (k i : Nat) (h : i < k), (beR n k)[i]? = some (UInt8.ofNat (n / 256 ^ (k - 1 - i)))
  | k + 1, 0, _ => by simp [beR]
  | k + 1, i + 1, h => by
    rw [beR, List.getElem?_cons_succ, beR_get n k i (by omega)]
    rw [show k - 1 - i = k + 1 - 1 - (i + 1) by omega]
theorem beR_take (n i : Nat) (h : i < 8) : (beR n 8).take (i + 1) = (beR n 8).take i ++ [UInt8.ofNat (n / 256 ^ (7 - i))] := by
  have hl : i < (beR n 8).length := by rw [beR_length]; exact h
  rw [List.take_succ_eq_append_getElem hl]
  have := beR_get n 8 i h
  rw [List.getElem?_eq_getElem hl, Option.some.injEq] at this
  rw [this]
theorem gap_more (n j : Nat) (h : j < gapN n) : (n + 1 + j) % 64 ≠ 56 := by unfold gapN at h; omega
theorem gap_done (n : Nat) : (n + 1 + gapN n) % 64 = 56 := by unfold gapN; omega
theorem gap_lt (n : Nat) : gapN n < 64 := by unfold gapN; omega

set_option maxHeartbeats 2000000 in
theorem rpadded_any (vb : Value) (l : List UInt8) (w : World) (hr : Rd w vb l) (hn : l.length ≤ 140737488355000) :
    Calls Tryd.prog 40 #[vb] w fun e w' => ∃ v, e = .returned v ∧ Own w.heap.size w' v (padL l) ∧ Nx w w' := by
  have hrd := hr
  obtain ⟨A, c, rfl, hc, hm, ha⟩ := hr
  have HR := Lib.hid hrd
  have HP : Hid (padL l = l ++ 128 :: (List.replicate (gapN l.length) 0 ++ beR (8 * l.length) 8)) := Lib.hid rfl
  have HG1 := Lib.hid (gap_more l.length)
  have HG2 := Lib.hid (gap_done l.length)
  have HG3 := Lib.hid (gap_lt l.length)
  have hw8 : IntKind.u64.wrap (l.length : Int) = (l.length : Int) := by rw [IntKind.wrap_u64]; omega
  have hw9 : 8 * (l.length : Int) = ((8 * l.length : Nat) : Int) := by omega
  have hw10 : IntKind.u64.wrap ((8 * l.length : Nat) : Int) = ((8 * l.length : Nat) : Int) := by rw [IntKind.wrap_u64]; omega
  have hni : (l.length : Int) ≤ 140737488355000 := by omega
  have H8 : Hid (8 * l.length < 18446744073709551616) := Lib.hid (by omega)
  clear ha hm hc hrd
  go_enter Tryd.func40, Tryd.ntmps40
  go_wp2_with (at_builtin; refine wpList_app rfl (.tmp 6) (.tmp 7) _ rfl Tryd.underlying28 info_u8s w.heap.size _ _ [] l rfl rfl (Own.nil _ _) HR.out (by simp; omega) (Nat.le_refl _) ?_)
  intro v1 w1 o1 b1 _
  have N1 := Lib.hid ((Nx.refl w).app b1)
  have O1 := Lib.hid o1
  clear o1 b1
  go_wp2_with (at_builtin; refine wpList_app rfl (.tmp 9) (.tmp 10) _ rfl Tryd.underlying28 info_u8s w.heap.size _ (.slice (some ⟨w1.heap.size, 0, none⟩) 1 1) l [128] rfl rfl (O1.out.alloc _) (Rd.one _ _ _ _ rfl) (by simp; omega) (by have := N1.out.size; simp; omega) ?_)
  intro v2 w2 o2 b2 _
  have N2 := Lib.hid ((N1.out.alloc _).app b2)
  have O2 := Lib.hid o2
  clear o2 b2 O1 N1
  go_wp2
  go_loopw [3] (fun u wr => ∃ j : Nat, j ≤ gapN l.length ∧ Own w.heap.size wr u (l ++ [128] ++ List.replicate j 0) ∧ Hid (Nx w wr)) (fun u _ => gapN l.length + l.length + 1 - (match u with | .slice _ n _ => n | _ => 0))
  case atStart => exact ⟨0, by omega, by simpa using O2.out, N2⟩
  case round =>
    clear O2 N2
    obtain ⟨j, hj, hown, HN⟩ := hrel
    have HO := Lib.hid hown
    obtain ⟨A1, c1, hv, _, _, _⟩ := hown.rd
    subst hv
    have hlen : (l ++ [128] ++ List.replicate j (0 : UInt8)).length = l.length + 1 + j := by simp; omega
    rw [hlen]
    have HLEN := Lib.hid hlen
    clear hown hlen
    by_cases hlt : j < gapN l.length
    · have hne : (((l.length + 1 + j : Nat) : Int) % 64 != 56) = true := by
        have := HG1.out j hlt
        rw [bne_iff_ne]; omega
      have HJ : Hid (j < 64) := Lib.hid (by have := HG3.out; omega)
      generalize gapN l.length = gp at *
      go_wp2_with (at_builtin; refine wpList_app rfl (.tmp 16) (.tmp 17) _ rfl Tryd.underlying28 info_u8s w.heap.size _ (.slice (some ⟨wr.heap.size, 0, none⟩) 1 1) (l ++ [128] ++ List.replicate j 0) [0] rfl rfl ?c1 (Rd.one _ _ _ _ rfl) ?c2 ?c3 ?_)
      case c1 => rw [← HLEN.out]; exact HO.out.alloc _
      case c2 => rw [HLEN.out]; have := HJ.out; simp; omega
      case c3 => have := HN.out.size; simp; omega
      intro v' w' hown' hb' _
      have HO2 := Lib.hid hown'
      obtain ⟨A2, c2, hv2, _, _, _⟩ := hown'.rd
      subst hv2
      have HNN := Lib.hid ((HN.out.alloc _).app hb')
      clear hown' hb'
      go_wp2
      go_roundw
      case rel => exact ⟨j + 1, by omega, by
        have h := HO2.out
        rw [List.replicate_succ', ← List.append_assoc]
        simpa using h, HNN⟩
      case measure => simp; omega
    · obtain rfl : j = gapN l.length := by omega
      have hne : (((l.length + 1 + gapN l.length : Nat) : Int) % 64 != 56) = false := by
        have := HG2.out
        rw [bne_eq_false_iff_eq]; omega
      have HGG := Lib.hid (show l.length + 1 + gapN l.length < l.length + 65 by have := HG3.out; omega)
      have HL1 : Hid ((l ++ [128] ++ List.replicate (gapN l.length) (0 : UInt8)).length ≤ l.length + 65) := Lib.hid (by rw [HLEN.out]; have := HGG.out; omega)
      have HP2 : Hid (padL l = (l ++ [128] ++ List.replicate (gapN l.length) (0 : UInt8)) ++ beR (8 * l.length) 8) := Lib.hid (by rw [HP.out]; simp)
      rw [← HLEN.out]
      rw [← HLEN.out] at hne
      clear HP HG1 HG2 HG3 HGG HLEN hlt hj
      generalize l ++ [128] ++ List.replicate (gapN l.length) (0 : UInt8) = M at *
      generalize 8 * l.length = N8 at *
      go_wp2
      go_loopw [3, 5] (fun u i wr => ∃ k : Nat, k ≤ 8 ∧ i = .int .i64 k ∧ Own w.heap.size wr u (M ++ (beR N8 8).take k) ∧ Hid (Nx w wr)) (fun _ i _ => 8 - (intOf i).toNat)
      case atStart => exact ⟨0, by omega, rfl, by simpa using HO.out, HN⟩
      case round =>
        clear HO HN
        obtain ⟨k, hk, rfl, hown, HN⟩ := hrel
        by_cases hlt : k < 8
        · have hk8 : (k : Int) < 8 := by omega
          obtain ⟨p, hp⟩ : ∃ p : Nat, 56 - 8 * (k : Int) = (p : Int) := ⟨56 - 8 * k, by omega⟩
          have hp56 : (p : Int) < 64 := by omega
          have hpw : IntKind.u64.wrap (p : Int) = (p : Int) := by rw [IntKind.wrap_u64]; omega
          have HB := Lib.hid (u8_shr' N8 p (7 - k) (by omega))
          have HT := Lib.hid (beR_take N8 k hlt)
          have HTL : Hid (((beR N8 8).take k).length ≤ 8) := Lib.hid (by rw [List.length_take, beR_length]; omega)
          go_wp2_with (at_builtin; refine wpList_app rfl (.tmp 27) (.tmp 35) _ rfl Tryd.underlying28 info_u8s w.heap.size _ (.slice (some ⟨wr.heap.size, 0, none⟩) 1 1) (M ++ (beR N8 8).take k) [UInt8.ofNat (N8 / 256 ^ (7 - k))] rfl rfl (hown.alloc _) (Rd.one _ _ _ _ HB.out) ?c2 ?c3 ?_)
          case c2 => have := HTL.out; have := HL1.out; simp only [List.length_append, List.length_singleton]; omega
          case c3 => have := HN.out.size; simp; omega
          intro v' w' hown' hb' _
          have HNN := Lib.hid ((HN.out.alloc _).app hb')
          have HO2 := Lib.hid hown'
          clear hown' hb' hown
          go_wp2
          go_roundw
          case rel => exact ⟨k + 1, by omega, by go_num, by rw [HT.out]; exact HO2.out, HNN⟩
          case measure => simp [intOf]; omega
        · obtain rfl : k = 8 := by omega
          have e8 : (beR N8 8).take 8 = beR N8 8 := List.take_of_length_le (by rw [beR_length]; omega)
          rw [e8, ← HP2.out] at hown
          go_wp2
          go_ret
          exact ⟨_, rfl, hown, HN.out⟩
end Go.Proofs.YtpkopigiijiiiaaDoor
end

section
namespace Go.Proofs.YtpkopigiijiiiaaDoor
open Go.RowKit
set_option linter.unusedVariables false
set_option linter.unusedSimpArgs false

theorem Row.bl {w w' : World} {g B : Nat} {cs : Array Value} {t : TypeId} (h : Row w g cs t) (k : Below B w w') (hg : g < B) : Row w' g cs t := by
  unfold Row
  rw [k.block g hg]; exact h

def hasL : List Int := beginS.list ++ kL
/-- A hasher with the constants. -/
def Has (w : World) (g : Nat) : Prop := Row w g (ints .u32 hasL) 65
theorem Has.nx {w w' : World} {g : Nat} (h : Has w g) (k : Nx w w') : Has w' g := Row.nx h k
theorem Has.begin {w : World} {g : Nat} (h : Has w g) : ∀ j v, (ints .u32 beginS.list)[j]? = some v → w.cell? ⟨g, 0 + j, none⟩ = some v := by
  intro j v hv
  rw [Nat.zero_add]
  refine Row.cell h ?_
  have hj : j < beginS.list.length := by
    have := (Array.getElem?_eq_some_iff.1 hv).1
    rwa [ints_size] at this
  rw [ints_get .u32 _ j hj] at hv
  rw [ints_get .u32 hasL j (by unfold hasL; rw [List.length_append]; omega), ← hv]
  congr 2
  unfold hasL
  rw [List.getElem_append_left hj]
theorem Has.k {w : World} {g : Nat} (h : Has w g) : ∀ j v, (ints .u32 kL)[j]? = some v → w.cell? ⟨g, 8 + j, none⟩ = some v := by
  intro j v hv
  refine Row.cell h ?_
  have hj : j < kL.length := by
    have := (Array.getElem?_eq_some_iff.1 hv).1
    rwa [ints_size] at this
  have h8 : beginS.list.length = 8 := rfl
  rw [ints_get .u32 _ j hj] at hv
  rw [ints_get .u32 hasL (8 + j) (by unfold hasL; rw [List.length_append]; omega), ← hv]
  congr 2
  unfold hasL
  rw [List.getElem_append_right (by omega)]
  congr 1
  omega

set_option maxRecDepth 100000 in
set_option maxHeartbeats 1000000 in
theorem new_any (w : World) :
    Calls Tryd.prog 32 #[] w fun e w' => ∃ g, e = .returned (.pointer (some ⟨g, 0, none⟩)) ∧ w.heap.size ≤ g ∧ Has w' g ∧ Nx w w' := by
  go_enter Tryd.func32, Tryd.ntmps32
  go_wp2_with (first | (refine wpList_val (some 2) rfl rfl (.agg (ints .u32 kL)) ?_ ?_; (focus kernel_rfl)) | (refine wpList_val (some 3) rfl rfl (.agg (ints .u32 hasL)) ?_ ?_; (focus kernel_rfl)))
  go_ret
  exact ⟨w.heap.size, rfl, Nat.le_refl _, Row.new _ _ _ _ rfl, (Nx.refl w).alloc _⟩

set_option maxHeartbeats 1000000 in
theorem rlist_any (l : List UInt8) (w : World) (hl : l.length = 32) :
    Calls Tryd.prog 25 #[.agg (hcel l)] w fun e w' => ∃ v, e = .returned v ∧ Own w.heap.size w' v l ∧ Nx w w' := by
  have HL := Lib.hid hl
  have hall : ∀ i (h : i < l.length), (hcel l)[i]? = some (bv l[i]) := hcel_get l
  replace hall := Lib.hid hall
  clear hl
  go_enter Tryd.func25, Tryd.ntmps25
  go_wp2_with fail
  have R0 := Row.new w (hcel l) 23 _ rfl
  have N0 := Lib.hid ((Nx.refl w).alloc (.cells (hcel l) 23))
  have hsz : w.heap.size < (w.alloc (.cells (hcel l) 23)).heap.size := by rw [alloc_size]; omega
  generalize w.alloc (.cells (hcel l) 23) = W at *
  go_loopw [3, 4] (fun u i wr => ∃ k : Nat, k ≤ 32 ∧ i = .int .i64 k ∧ Own (w.heap.size + 1) wr u (l.take k) ∧ Row wr w.heap.size (hcel l) 23 ∧ Hid (Nx w wr)) (fun _ i _ => 32 - (intOf i).toNat)
  case atStart => exact ⟨0, by omega, rfl, by rw [List.take_zero]; exact Own.nil _ _, R0, N0⟩
  case round =>
    clear N0 R0 hsz
    obtain ⟨k, hk, rfl, hown, R, HN⟩ := hrel
    by_cases hlt : k < 32
    · have hkl : k < l.length := by rw [HL.out]; exact hlt
      have c1 := R.cell (hall.out k hkl)
      have HT := Lib.hid (List.take_succ_eq_append_getElem hkl)
      have hk32 : (k : Int) < 32 := by omega
      have HLL : Hid ((l.take k).length ≤ 32) := Lib.hid (by rw [List.length_take]; omega)
      replace hkl := Lib.hid hkl
      have HNG : Hid (w.heap.size < wr.heap.size) := Lib.hid R.lt
      go_wp2_with (at_builtin; refine wpList_app rfl (.tmp 9) (.tmp 13) _ rfl Tryd.underlying28 info_u8s (w.heap.size + 1) _ (.slice (some ⟨wr.heap.size, 0, none⟩) 1 1) (l.take k) [l[k]'(hkl.out)] rfl rfl (hown.alloc _) (Rd.one _ _ _ _ rfl) ?c2 ?c3 ?_)
      case c2 => have := HLL.out; simp only [List.length_singleton]; omega
      case c3 => have := HNG.out; simp; omega
      intro v' w' hown' hb' _
      have HNN := Lib.hid ((HN.out.alloc _).app (hb'.mono (by omega)))
      have RR := (R.alloc (.cells #[bv (l[k]'(hkl.out))] 5)).bl hb' (by omega)
      have HO2 := Lib.hid hown'
      clear hown' hown
      go_wp2
      go_roundw
      case rel => exact ⟨k + 1, by omega, by go_num, by first | exact HO2.out | (rw [HT.out]; exact HO2.out), RR, HNN⟩
      case measure => simp [intOf]; omega
    · obtain rfl : k = 32 := by omega
      rw [List.take_of_length_le (by rw [HL.out]; exact Nat.le_refl _)] at hown
      go_wp2
      go_ret
      exact ⟨_, rfl, hown.mono (by omega), HN.out⟩
end Go.Proofs.YtpkopigiijiiiaaDoor
end

section
namespace Go.Proofs.YtpkopigiijiiiaaDoor
open Go.RowKit
set_option linter.unusedVariables false
set_option linter.unusedSimpArgs false

/-- A cut of a slice. -/
def cutV (A : Option Addr) (c lo hi : Nat) : Value := .slice (if c = lo then A else A.map (·.add lo)) (hi - lo) (c - lo)
theorem slice_cutV {P : Program} (t e : TypeId) (ht : P.underlying t = some (.slice e)) (hsz : ∀ w, (sizeOf e).run P w = .ok 1 w) (A : Option Addr) (n c lo hi : Nat) (zl zh : Int) (hl : zl = lo) (hh : zh = hi) (h1 : lo ≤ hi) (h2 : hi ≤ c) (w : World) :
    (Instr.sliceAt t (.slice A n c) (some (.int .i64 zl)) (some (.int .i64 zh)) none).run P w = .ok (cutV A c lo hi) w := by
  subst hl hh
  have e1 : (lo : Int) ≤ (hi : Int) := by omega
  have e2 : (hi : Int) ≤ (c : Int) := by omega
  unfold cutV
  simp [Instr.sliceAt, Instr.slice, Instr.sureAddr, run_underlying ht, Instr.sliceBounds, run_sliceBound, hsz, e1, e2, h1, h2]
theorem cutV_rd {w : World} {A : Option Addr} {c : Nat} {l : List UInt8} (ha : At w A l) (hc : l.length ≤ c) (hm : c ≤ maxLen) (lo hi : Nat) (h1 : lo ≤ hi) (h2 : hi ≤ l.length) : Rd w (cutV A c lo hi) ((l.drop lo).take (hi - lo)) := by
  unfold cutV
  split
  · have e : (l.drop lo).take (hi - lo) = [] := by rw [List.drop_of_length_le (by omega), List.take_nil]
    rw [e, show hi - lo = 0 by omega]
    exact Rd.none0 w _ _ (by omega)
  · exact Rd.cut (c := c - lo) ha (i := lo) (m := hi - lo) (by omega) (by omega) (by omega)

theorem rounds_succ' (s : St) (l : List UInt8) (n : Nat) : s.rounds l (n + 1) = (s.rounds l n).round ((l.drop (64 * n)).take 64) := rfl
theorem hashL_get (s : St) (i : Nat) (h : i < 32) : (hashL s)[i]'(by rw [hashL_length]; exact h) = UInt8.ofNat ((s.list.getD (i / 4) 0).toNat / 256 ^ (3 - i % 4)) := by
  obtain ⟨a, b, c, d, e, f, g, k⟩ := s
  rcases (by omega : i = 0 ∨ i = 1 ∨ i = 2 ∨ i = 3 ∨ i = 4 ∨ i = 5 ∨ i = 6 ∨ i = 7 ∨ i = 8 ∨ i = 9 ∨ i = 10 ∨ i = 11 ∨ i = 12 ∨ i = 13 ∨ i = 14 ∨ i = 15 ∨ i = 16 ∨ i = 17 ∨ i = 18 ∨ i = 19 ∨ i = 20 ∨ i = 21 ∨ i = 22 ∨ i = 23 ∨ i = 24 ∨ i = 25 ∨ i = 26 ∨ i = 27 ∨ i = 28 ∨ i = 29 ∨ i = 30 ∨ i = 31) with rfl | rfl | rfl | rfl | rfl | rfl | rfl | rfl | rfl | rfl | rfl | rfl | rfl | rfl | rfl | rfl | rfl | rfl | rfl | rfl | rfl | rfl | rfl | rfl | rfl | rfl | rfl | rfl | rfl | rfl | rfl | rfl <;> rfl
/-- So many bytes of a hash, and zeros. -/
def hashZ (H : List UInt8) (k : Nat) : List UInt8 := H.take k ++ List.replicate (32 - k) 0
theorem hashZ_zero (H : List UInt8) : hashZ H 0 = List.replicate 32 0 := by simp [hashZ]
theorem hashZ_all (H : List UInt8) (h : H.length = 32) : hashZ H 32 = H := by
  unfold hashZ
  rw [List.take_of_length_le (by omega)]
  simp
theorem hashZ_length (H : List UInt8) (k : Nat) (hk : k ≤ 32) (h : H.length = 32) : (hashZ H k).length = 32 := by
  unfold hashZ
  rw [List.length_append, List.length_take, List.length_replicate]; omega
theorem hashZ_next (H : List UInt8) (k : Nat) (b : UInt8) (hk : k < 32) (h : H.length = 32) (hb : H[k]? = some b) : (hashZ H k).set k b = hashZ H (k + 1) := by
  obtain ⟨hb1, rfl⟩ := List.getElem?_eq_some_iff.1 hb
  unfold hashZ
  rw [List.take_succ_eq_append_getElem (by omega), List.set_append_right _ _ (by rw [List.length_take]; omega)]
  rw [show k - (H.take k).length = 0 by rw [List.length_take]; omega, show 32 - k = (32 - (k + 1)) + 1 by omega, List.replicate_succ, List.set_cons_zero, List.append_assoc]
  rfl
/-- A byte of a word. -/
theorem word_byte (x : Int) (p d : Nat) (hq : (d : Int) = 24 - 8 * (p : Int)) (hp : p < 4) (h : Wd x) :
    x / 2 ^ d % 256 = ((UInt8.ofNat (x.toNat / 256 ^ (3 - p))).toNat : Int) := by
  obtain ⟨h0, h1⟩ := h
  obtain ⟨n, rfl⟩ := Int.eq_ofNat_of_zero_le h0
  have e : d = 8 * (3 - p) := by omega
  rw [e, Int.toNat_natCast]
  exact u8_shr' n _ _ rfl

set_option maxRecDepth 100000 in
set_option maxHeartbeats 2000000 in
theorem rsum_any (g : Nat) (vb : Value) (l : List UInt8) (w : World) (hg : Has w g) (hr : Rd w vb l) (hn : l.length ≤ 140737488354000) :
    Calls Tryd.prog 33 #[.pointer (some ⟨g, 0, none⟩), vb] w fun e w' => e = .returned (.agg (hcel (shaL l))) ∧ Nx w w' := by
  have HPAD := Lib.hid (rpadded_any vb l)
  have HRD := Lib.hid hr
  have HLN := Lib.hid hn
  have HPL := Lib.hid (padL_whole l)
  have HPB : Hid ((padL l).length ≤ 140737488355328) := Lib.hid (by rw [padL_length]; unfold gapN; omega)
  have HSH : Hid (shaL l = hashL (beginS.rounds (padL l) ((padL l).length / 64))) := Lib.hid rfl
  have HOK : Hid (∀ k, (beginS.rounds (padL l) k).ok) := Lib.hid fun k => St.ok.rounds begin_ok _ _
  have HG := Lib.hid hg
  obtain ⟨A0, c0, rfl, -, -, -⟩ := hr
  obtain ⟨hz, hzs⟩ := zero_of_info info_hash'
  obtain ⟨hz8, hzs8⟩ := zero_of_info info_w8
  clear hn hg
  have HGL : Hid (g < w.heap.size) := Lib.hid HG.out.lt
  have HB0 : Hid (beginS.rounds (padL l) 0 = beginS) := Lib.hid rfl
  have HR1 : Hid (∀ k, beginS.rounds (padL l) (k + 1) = (beginS.rounds (padL l) k).round (((padL l).drop (64 * k)).take 64)) := Lib.hid fun k => rfl
  have hzr : Hid ((List.replicate 32 (0 : UInt8)).length = 32) := Lib.hid List.length_replicate
  generalize hZZ : List.replicate 32 (0 : UInt8) = ZZ at *
  replace hZZ := Lib.hid hZZ
  generalize padL l = p at *
  generalize hSF : beginS.rounds p = SF at *
  clear hSF
  have h64 : ∀ B : St, (Tryd.prog.info? 55).map (·.size) = some (ints .u32 B.list).size := fun B => by rw [ints_size]; kernel_rfl
  replace h64 := Lib.hid h64
  have h640 : ∀ B : St, (ints .u32 [0, 0, 0, 0, 0, 0, 0, 0]).size = (ints .u32 B.list).size := fun B => by rw [ints_size, ints_size]; rfl
  replace h640 := Lib.hid h640
  go_enter Tryd.func33, Tryd.ntmps33
  go_wp2_with fail
  refine (HPAD.out _ (HRD.out.alloc _) (by have := HLN.out; omega)).mono ?_
  rintro e w1 ⟨v1, rfl, o1, n1⟩
  have N1 := Lib.hid (((Nx.refl w).alloc (.cells (hcel ZZ) 23)).trans n1)
  have R1 := (Row.new w (hcel ZZ) 23 _ rfl).nx n1
  have P1 := Lib.hid o1.rd
  clear o1 n1
  obtain ⟨A1, c1, rfl, hc1, hm1, ha1⟩ := P1.out
  have G1 := HG.out.nx N1.out
  have hcb := Lib.hid G1.begin
  go_wp2_with (first | (refine wpList_load_at rfl 55 (.tmp 14) rfl g 0 rfl (ints .u32 beginS.list) _ hcb.out Tryd.underlying55 rfl (h64.out beginS) ?_) | (refine wpList_store_row rfl 55 (.tmp 6) (.tmp 15) rfl w1.heap.size (ints .u32 beginS.list) rfl rfl 55 (ints .u32 [0, 0, 0, 0, 0, 0, 0, 0]) (Row.new _ _ _ _ rfl) (h64.out _) (h640.out _) (ints_one _ _) ?_))
  have NW := Lib.hid ((N1.out.alloc (.cells (ints .u32 [0, 0, 0, 0, 0, 0, 0, 0]) 55)).setRow (ints .u32 beginS.list) N1.out.size)
  have RW := (Row.new w1 (ints .u32 [0, 0, 0, 0, 0, 0, 0, 0]) 55 _ rfl).setRow (ints .u32 beginS.list)
  have hne : w.heap.size ≠ w1.heap.size := Nat.ne_of_lt R1.lt
  have RW' : Row ((w1.alloc (.cells (ints .u32 [0, 0, 0, 0, 0, 0, 0, 0]) 55)).setRow w1.heap.size (ints .u32 beginS.list)) w1.heap.size (ints .u32 (SF 0).list) 55 := by rw [HB0.out]; exact RW
  clear RW
  have RZ := (R1.alloc (.cells (ints .u32 [0, 0, 0, 0, 0, 0, 0, 0]) 55)).setRow_other (k := w1.heap.size) (ints .u32 beginS.list) hne
  have HG6 : Hid (w.heap.size ≤ w1.heap.size) := Lib.hid N1.out.size
  have NP : Hid (Nx w1 ((w1.alloc (.cells (ints .u32 [0, 0, 0, 0, 0, 0, 0, 0]) 55)).setRow w1.heap.size (ints .u32 beginS.list))) := Lib.hid (((Nx.refl w1).alloc _).setRow _ (Nat.le_refl _))
  have HP1 : Hid (∀ W, Nx w1 W → At W A1 p) := Lib.hid fun W h => ha1.nx h
  clear hcb G1 R1 N1 P1 ha1 HRD HPAD
  generalize ((w1.alloc (.cells (ints .u32 [0, 0, 0, 0, 0, 0, 0, 0]) 55)).setRow w1.heap.size (ints .u32 beginS.list)) = W at *
  replace hne := Lib.hid hne
  have hpl : p.length = 64 * (p.length / 64) := HPL.out.symm
  generalize hnb : p.length / 64 = nb at *
  replace hpl := Lib.hid hpl
  replace hnb := Lib.hid hnb
  generalize hPN : p.length = pn at *
  replace hPN := Lib.hid hPN
  have hpb : (pn : Int) ≤ 140737488355328 := by have := HPB.out; omega
  have HC1 := Lib.hid hc1
  have HM1 := Lib.hid hm1
  clear hc1 hm1
  generalize hg6 : w1.heap.size = g6 at *
  have HG61 : Hid (w1.heap.size ≤ g6) := Lib.hid (by rw [hg6]; exact Nat.le_refl _)
  clear hg6
  go_loopw [7] (fun i wr => ∃ k : Nat, k ≤ nb ∧ i = .int .i64 ((64 * k : Nat) : Int) ∧ Hid (Nx w wr) ∧ Hid (Nx w1 wr) ∧ Row wr g6 (ints .u32 (SF k).list) 55 ∧ Row wr w.heap.size (hcel ZZ) 23) (fun i _ => pn - (intOf i).toNat)
  case atStart => exact ⟨0, by omega, rfl, NW, NP, RW', RZ⟩
  case round =>
    clear NW NP RW' RZ
    obtain ⟨k, hk, rfl, HN, HN1, R6, R4⟩ := hrel
    by_cases hlt : k < nb
    · have hlt2 : ((64 * k : Nat) : Int) < (pn : Int) := by have := hpl.out; omega
      have hkk : 64 * k + 64 ≤ pn := by have := hpl.out; omega
      have HKK := Lib.hid hkk
      have hs64 : IntKind.i64.wrap (((64 * k : Nat) : Int) + 64) = ((64 * k + 64 : Nat) : Int) := by rw [IntWalk.i64_in _ (by omega)]; omega
      have HCUT := Lib.hid (fun W => slice_cutV (P := Tryd.prog) 28 5 Tryd.underlying28 Tryd.sizeOf5 A1 pn c1 (64 * k) (64 * k + 64) _ _ rfl rfl (by omega) (by have := HC1.out; omega) W)
      have HRC : Hid (∀ W, Nx w1 W → Rd W (cutV A1 c1 (64 * k) (64 * k + 64)) ((p.drop (64 * k)).take 64)) := Lib.hid fun W h => by
        have := cutV_rd (HP1.out W h) (c := c1) (by rw [hPN.out]; exact HC1.out) HM1.out (64 * k) (64 * k + 64) (by omega) (by rw [hPN.out]; exact hkk)
        rwa [Nat.add_sub_cancel_left] at this
      have HBL : Hid (((p.drop (64 * k)).take 64).length = 64) := Lib.hid (by rw [List.length_take, List.length_drop, hPN.out]; omega)
      have HSK := Lib.hid (HR1.out k)
      have HOKK := Lib.hid (HOK.out k)
      generalize (p.drop (64 * k)).take 64 = BL at *
      have HSR : Hid (∀ W, Nx w1 W → Calls Tryd.prog 41 #[.agg (ints .u32 (SF k).list), cutV A1 c1 (64 * k) (64 * k + 64), .agg (ints .u32 kL)] W fun e w' => e = .returned (.agg (ints .u32 (SF (k + 1)).list)) ∧ Nx W w') := Lib.hid fun W h => by
        rw [HSK.out]
        exact rround_any (SF k) BL _ W HOKK.out HBL.out (HRC.out W h)
      have hsl : (SF k).list.length = 8 := rfl
      generalize hS1 : SF (k + 1) = S1 at *
      generalize hS0 : SF k = S0 at *
      replace hS1 := Lib.hid hS1
      clear hS0 hsl
      go_wp2_with fail
      refine wp_region_nx 11 [[], [], [], [], [3], [1, 2, 4], [], [6], [7], [8], [0, 5, 9], [10, 10, 0, 1, 2, 3, 4, 5, 6, 7, 8, 9, 10]] [some 22, some 23, some 24, some 25, some 26, some 27, some 28, some 29, some 30, some 31, some 32]
        [.eq (.agg (ints .u32 S0.list)), .eq (.slice A1 pn c1), .eq (.int .i64 ((64 * k : Nat) : Int)), .eq (.int .i64 ((64 * k : Nat) : Int)), .eq (.int .i64 ((64 * k + 64 : Nat) : Int)), .eq (cutV A1 c1 (64 * k) (64 * k + 64)), .eq (.pointer (some ⟨g, 0, none⟩)), .eq (.pointer (some ⟨g, 0, none⟩)), .eq (.pointer (some ⟨g, 8, none⟩)), .eq (.agg (ints .u32 kL)), .eq (.agg (ints .u32 S1.list))]
        (by kernel_rfl) (by kernel_rfl) (hord_of (by decide)) (by kernel_rfl) (by decide) (by decide) (htail_of (by decide)) ?_ _ (by rfl) ?_
      · intro x tm W htm hx i hi hd K hK
        simp only [fillA, List.setIfInBounds_toArray, List.set_cons_zero, List.set_cons_succ] at htm
        subst htm
        have hcs : i = 0 ∨ i = 1 ∨ i = 2 ∨ i = 3 ∨ i = 4 ∨ i = 5 ∨ i = 6 ∨ i = 7 ∨ i = 8 ∨ i = 9 ∨ i = 10 := by omega
        clear hi
        rcases hcs with rfl | rfl | rfl | rfl | rfl | rfl | rfl | rfl | rfl | rfl | rfl
        · exact wpOp_of rfl rfl (wp_load_row_of (some 22) rfl 55 (.tmp 6) rfl g6 rfl 55 (ints .u32 S0.list) _ (R6.nx hx) Tryd.underlying55 rfl (h64.out S0) (hK _ _ rfl (Nx.refl _)))
        · exact wpOp_of rfl rfl (wp_val_of (some 23) rfl (.slice A1 pn c1) (by kernel_rfl) (hK _ _ rfl (Nx.refl _)))
        · exact wpOp_of rfl rfl (wp_val_of (some 24) rfl (.int .i64 ((64 * k : Nat) : Int)) (by kernel_rfl) (hK _ _ rfl (Nx.refl _)))
        · exact wpOp_of rfl rfl (wp_val_of (some 25) rfl (.int .i64 ((64 * k : Nat) : Int)) (by kernel_rfl) (hK _ _ rfl (Nx.refl _)))
        · have e3 : x 3 = .int .i64 ((64 * k : Nat) : Int) := hd 3 (by decide)
          generalize x 3 = y3 at e3 hK ⊢
          subst e3
          exact wpOp_of rfl rfl (wp_val_of (some 26) rfl (.int .i64 (IntKind.i64.wrap (((64 * k : Nat) : Int) + 64))) (by kernel_rfl) (hK _ _ (show _ = _ by rw [hs64]) (Nx.refl _)))
        · have e1 : x 1 = .slice A1 pn c1 := hd 1 (by decide)
          generalize x 1 = y1 at e1 hK ⊢
          subst e1
          have e2 : x 2 = .int .i64 ((64 * k : Nat) : Int) := hd 2 (by decide)
          generalize x 2 = y2 at e2 hK ⊢
          subst e2
          have e4 : x 4 = .int .i64 ((64 * k + 64 : Nat) : Int) := hd 4 (by decide)
          generalize x 4 = y4 at e4 hK ⊢
          subst e4
          exact wpOp_of rfl rfl (wp_slice_of (some 27) rfl 28 (.tmp 23) (some (.tmp 24)) (some (.tmp 26)) none rfl _ (HCUT.out W) (hK _ _ rfl (Nx.refl _)))
        · exact wpOp_of rfl rfl (wp_val_of (some 28) rfl (.pointer (some ⟨g, 0, none⟩)) (by kernel_rfl) (hK _ _ rfl (Nx.refl _)))
        · have e6 : x 6 = .pointer (some ⟨g, 0, none⟩) := hd 6 (by decide)
          generalize x 6 = y6 at e6 hK ⊢
          subst e6
          exact wpOp_of rfl rfl (wp_val_of (some 29) rfl (.pointer (some ⟨g, 0, none⟩)) (by kernel_rfl) (hK _ _ rfl (Nx.refl _)))
        · have e7 : x 7 = .pointer (some ⟨g, 0, none⟩) := hd 7 (by decide)
          generalize x 7 = y7 at e7 hK ⊢
          subst e7
          exact wpOp_of rfl rfl (wp_val_of (some 30) rfl (.pointer (some ⟨g, 8, none⟩)) (by kernel_rfl) (hK _ _ rfl (Nx.refl _)))
        · have e8 : x 8 = .pointer (some ⟨g, 8, none⟩) := hd 8 (by decide)
          generalize x 8 = y8 at e8 hK ⊢
          subst e8
          exact wpOp_of rfl rfl (wp_load_at (some 31) rfl 63 (.tmp 30) rfl g 8 rfl (ints .u32 kL) _ ((HG.out.nx (HN.out.trans hx)).k) Tryd.underlying63 rfl (by rw [ints_size]; kernel_rfl) (hK _ _ rfl (Nx.refl _)))
        · have e0 : x 0 = .agg (ints .u32 S0.list) := hd 0 (by decide)
          have e5 : x 5 = cutV A1 c1 (64 * k) (64 * k + 64) := hd 5 (by decide)
          have e9 : x 9 = .agg (ints .u32 kL) := hd 9 (by decide)
          refine wpOp_of rfl rfl (wp_callp_of (some 32) rfl 41 #[x 0, x 5, x 9] (by kernel_rfl) _ ?_ hK)
          rw [e0, e5, e9]
          exact (HSR.out _ (HN1.out.trans hx)).mono fun _ _ ⟨h1, h2⟩ => ⟨_, h1, rfl, h2⟩
      · intro x tm W htm hx hv
        simp only [fillA, List.setIfInBounds_toArray, List.set_cons_zero, List.set_cons_succ] at htm
        subst htm
        have e10 : x 10 = .agg (ints .u32 S1.list) := hv 10 (by decide)
        rw [e10]
        refine wpList_store_row rfl 55 (.tmp 6) (.tmp 32) rfl g6 (ints .u32 S1.list) rfl rfl 55 (ints .u32 S0.list) (R6.nx hx) (h64.out _) (by rw [ints_size, ints_size]; rfl) (ints_one _ _) ?_
        refine wpList_nil ?_
        have HNW := Lib.hid ((HN.out.trans hx).setRow (ints .u32 S1.list) HG6.out)
        have HN1W : Hid (Nx w1 (W.setRow g6 (ints .u32 S1.list))) := Lib.hid ((HN1.out.trans hx).setRow _ HG61.out)
        have R6W := (R6.nx hx).setRow (ints .u32 S1.list)
        have R4W := (R4.nx hx).setRow_other (k := g6) (ints .u32 S1.list) hne.out
        clear HN HN1 R6 R4
        generalize W.setRow g6 (ints .u32 S1.list) = W2 at *
        generalize x 0 = y0 at *
        generalize x 5 = y5 at *
        go_wp2_with fail
        go_roundw
        case rel => exact ⟨k + 1, by omega, by go_num, HNW, HN1W, by rw [hS1.out]; exact R6W, R4W⟩
        case measure => simp [intOf]; omega
    · obtain rfl : k = nb := by omega
      have hge : decide (64 * (k : Int) < (pn : Int)) = false := by have := hpl.out; exact decide_eq_false (by omega)
      rw [show ((64 * k : Nat) : Int) = 64 * (k : Int) by omega]
      have HHL : Hid ((shaL l).length = 32) := Lib.hid (shaL_length l)
      have HHG : Hid (∀ i, i < 32 → (shaL l)[i]? = some (UInt8.ofNat (((SF k).list.getD (i / 4) 0).toNat / 256 ^ (3 - i % 4)))) := Lib.hid fun i h => by
        rw [← hashL_get (SF k) i h, ← List.getElem?_eq_getElem, HSH.out]
      have HWD := Lib.hid (St.list_wd (HOK.out k))
      have HSL : Hid ((SF k).list.length = 8) := Lib.hid rfl
      clear HSH HB0 HR1 HOK HPL
      generalize (SF k).list = SL at *
      generalize hHE : shaL l = H at *
      replace hHE := Lib.hid hHE
      have hi1 : Hid ((Tryd.prog.info? 23).map (·.size) = some (hcel H).size) := Lib.hid (by rw [hcel_size, HHL.out]; exact hzs)
      have ho1 : Hid ((hcel ZZ).size = (hcel H).size) := Lib.hid (by rw [hcel_size, hcel_size, HHL.out, hzr.out])
      go_wp2
      have RH := Row.new wr (hcel ZZ) 23 _ rfl
      have hne8 := Lib.hid (Nat.ne_of_lt R6.lt)
      have hne4 := Lib.hid (Nat.ne_of_lt R4.lt)
      have R6' := R6.alloc (.cells (hcel ZZ) 23)
      have R4' := R4.alloc (.cells (hcel ZZ) 23)
      have NN := Lib.hid (HN.out.alloc (.cells (hcel ZZ) 23))
      have HG8 := Lib.hid HN.out.size
      replace hge := Lib.hid hge
      clear R6 R4 HN HN1
      generalize wr.alloc (.cells (hcel ZZ) 23) = W at *
      generalize wr.heap.size = g8 at *
      rw [← hZZ.out, ← hashZ_zero H] at RH
      go_loopw [9] (fun i wr => ∃ j : Nat, j ≤ 32 ∧ i = .int .i64 j ∧ Hid (Nx w wr) ∧ Row wr g8 (hcel (hashZ H j)) 23 ∧ Row wr g6 (ints .u32 SL) 55 ∧ Row wr w.heap.size (hcel ZZ) 23) (fun i _ => 32 - (intOf i).toNat)
      case atStart => exact ⟨0, by omega, rfl, NN, RH, R6', R4'⟩
      case round =>
        clear NN RH R6' R4'
        obtain ⟨j, hj, rfl, HN, R8, R6, R4⟩ := hrel
        by_cases hlt : j < 32
        · have hj32 : (j : Int) < 32 := by omega
          have hq4 : j / 4 < SL.length := by rw [HSL.out]; omega
          have c6 : wr.cell? ⟨g6, j / 4, none⟩ = some (.int .u32 (SL.getD (j / 4) 0)) := by
            rw [R6.cell (ints_get .u32 SL (j / 4) hq4), List.getD_eq_getElem?_getD, List.getElem?_eq_getElem hq4]; rfl
          have HW1 := Lib.hid (HWD.out (j / 4))
          have HJ := Lib.hid (HHG.out j hlt)
          have HNX := Lib.hid (hashZ_next H j _ hlt HHL.out HJ.out)
          have HZL := Lib.hid (hashZ_length H j hj HHL.out)
          have f8 := R8.frozen
          have hzl : j < (hashZ H j).length := by rw [HZL.out]; exact hlt
          obtain ⟨old, c8⟩ : ∃ old, wr.cell? ⟨g8, j, none⟩ = some (.int .u8 old) := ⟨_, R8.cell (hcel_get _ j hzl)⟩
          clear hzl
          obtain ⟨q, hq⟩ : ∃ q : Nat, j / 4 = q := ⟨_, rfl⟩
          obtain ⟨r, hr⟩ : ∃ r : Nat, j % 4 = r := ⟨_, rfl⟩
          rw [hq] at c6 HW1 HNX
          rw [hr] at HNX
          have hq1 : (j : Int) / 4 = (q : Int) := by omega
          have hr1 : (j : Int) % 4 = (r : Int) := by omega
          have hq8 : (q : Int) < 8 := by omega
          obtain ⟨d, hd⟩ : ∃ d : Nat, 24 - 8 * (r : Int) = (d : Int) := ⟨24 - 8 * r, by omega⟩
          have hd32 : (d : Int) < 32 := by omega
          have HB := Lib.hid (word_byte (SL.getD q 0) r d (by omega) (by omega) HW1.out)
          generalize SL.getD q 0 = x at *
          clear hq hr HJ HHG HWD hq4
          go_wp2
          go_roundw
          case rel =>
            refine ⟨j + 1, by omega, by go_num, HN.out.setAt _ HG8.out, ?_, R6.other _ _ _ hne8.out, R4.other _ _ _ hne4.out⟩
            rw [HB.out, ← HNX.out, ← hcel_set _ _ _ (by rw [HZL.out]; exact hlt)]
            exact R8.set j _
          case measure => simp [intOf]; omega
        · obtain rfl : j = 32 := by omega
          rw [hashZ_all H HHL.out] at R8
          have hl : w.heap.size ≤ w.heap.size := Nat.le_refl _
          clear HHG HWD
          go_wp2_with (first | (refine wpList_load_row rfl 23 (.tmp 8) rfl g8 rfl 23 (hcel H) (0, 0) _ R8 Tryd.underlying23 rfl hi1.out ?_) | (refine wpList_store_row rfl 23 (.tmp 4) (.tmp 50) rfl w.heap.size (hcel H) rfl rfl 23 (hcel ZZ) R4 hi1.out ho1.out (hcel_one _) ?_))
          exact bodyPost_ret (results_cell_row Tryd.results33 _ _ w.heap.size 23 (hcel H) (0, 0) _ rfl (R4.setRow _) Tryd.underlying23 rfl hi1.out) rfl ⟨by rw [hHE.out], HN.out.setRow _ hl⟩
end Go.Proofs.YtpkopigiijiiiaaDoor
end

section
namespace Go.Proofs.YtpkopigiijiiiaaDoor
open Go.RowKit
set_option linter.unusedVariables false
set_option linter.unusedSimpArgs false
set_option maxRecDepth 20000

theorem run_mk1' (x : UInt8) (w : World) : (Instr.buildSlice 28 1 #[(0, .int .u8 (x.toNat : Int))]).run Tryd.prog w = .ok (.slice (some ⟨w.heap.size, 0, none⟩) 1 1) (w.alloc (.cells #[.int .u8 (x.toNat : Int)] 5)) := by kernel_rfl

end Go.Proofs.YtpkopigiijiiiaaDoor
end

section
namespace Go.Proofs.YtpkopigiijiiiaaDoor
open Go Go.RowKit
set_option linter.unusedVariables false
set_option linter.unusedSimpArgs false
set_option linter.unusedVariables false
set_option linter.unusedSimpArgs false

end Go.Proofs.YtpkopigiijiiiaaDoor
end

section
namespace Go.Proofs.YtpkopigiijiiiaaDoor
open Go Go.RowKit
set_option linter.unusedVariables false
set_option linter.unusedSimpArgs false

theorem kis_of_laid {W : World} (h : laidMetH Tryd.prog [("moneyer/sha.k", Rows.laid_moneyer_sha_k)] W) : KIs W := by
  rw [MakeChecks.laidMetH_plain _ _ _ (by kernel_rfl)] at h
  obtain ⟨ps, ⟨g, t, cs, fuel, p, q, hg, ht, hv, hd, _, _⟩, _, _⟩ := h
  obtain rfl := Option.some.inj ((show Tryd.prog.globalNamed "moneyer/sha.k" = some 0 by kernel_rfl).symm.trans hg)
  obtain rfl := Option.some.inj ((show (Tryd.prog.globals[0]?).map (·.type) = some 63 by kernel_rfl).symm.trans ht)
  obtain ⟨xs, m, _, ex, _, hl, hel⟩ := DataW.trod_array Tryd.underlying63 hd
  have c5 : Tryd.prog.cellsOf 54 = 1 := by kernel_rfl
  intro r hr
  have hE := hel r hr
  rw [c5, Nat.mul_one, List.getElem?_eq_getElem (by omega)] at hE
  obtain ⟨z, e1, e2, _⟩ := DataW.trod_int Tryd.underlying54 hE
  have hlen := kL_length
  have e3 : (xs.map (·.1)) = kL.map fun n => .lit (.int .u32 n) := (DataW.agg.inj (Prod.mk.inj ex).1).symm
  have e4 : (xs.map (·.1))[r]? = (kL.map fun n => (DataW.lit (.int .u32 n) : DataW Unit))[r]? := by rw [e3]
  rw [List.getElem?_map, List.getElem?_map, List.getElem?_eq_getElem (by omega : r < xs.length), List.getElem?_eq_getElem (by omega : r < kL.length), e2] at e4
  have hz : z = kL.getD r 0 := by
    simp only [Option.map_some, Option.some.injEq, DataW.lit.injEq, Lit.int.injEq, true_and] at e4
    rw [e4, List.getD, List.getElem?_eq_getElem (by omega : r < kL.length)]; rfl
  rw [World.var?_cell hg hv r, ← hz]
  have : cs.toList[r]? = some (.int .u32 z) := by
    have h0 : ((cs.toList.drop r).take 1)[0]? = some (.int .u32 z) := by rw [e1]; rfl
    simpa using h0
  simpa using this

end Go.Proofs.YtpkopigiijiiiaaDoor
end
