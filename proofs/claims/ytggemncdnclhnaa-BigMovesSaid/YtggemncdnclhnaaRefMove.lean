/- THE REFERENCE OF LAYER 3: Left, Right. -/
import Derived.Test.YtggemncdnclhnaaRefAdd
import Derived.Test.YtggemncdnclhnaaBig6
import Derived.Test.YtggemncdnclhnaaBig8
import Derived.Deep.DeepCutAuto
import Derived.Deep.Cut
namespace Go.Proofs.Ytggemncdnclhnaa
open Go.RowKit
set_option linter.unusedVariables false
set_option linter.unusedSimpArgs false

set_option maxHeartbeats 4000000 in
set_option maxRecDepth 100000 in
theorem refLeft_nat (a : Nat) (n : Int) (m : Nat) (hm : n.toNat = m) (w : World) (hn0 : -9223372036854775808 ≤ n) (hn : n ≤ 9223372036854775807) :
    Calls Try.prog 37 #[.agg #[.int .u64 (lim a 0 : Int), .int .u64 (lim a 1 : Int), .int .u64 (lim a 2 : Int), .int .u64 (lim a 3 : Int)], .int .i64 n] w fun e w' => e = .returned (.agg #[.int .u64 (lim (a * 2 ^ m) 0 : Int), .int .u64 (lim (a * 2 ^ m) 1 : Int), .int .u64 (lim (a * 2 ^ m) 2 : Int), .int .u64 (lim (a * 2 ^ m) 3 : Int)]) ∧ Nx w w' := by
  obtain ⟨hz, hs⟩ := zero_of_info info_bits
  have HB := Lib.hid (fun w => refBits_any a w)
  have HN := Lib.hid (fun w => refNumber_any (a * 2 ^ m) w)
  have HSZ : Hid ((Try.prog.info? 60).map (·.size) = some (bcel (bitsL a)).size) := Lib.hid (by rw [bcel_size, bitsL_length]; exact hs)
  have HSM : Hid ((Try.prog.info? 60).map (·.size) = some (bcel (bitsL (a * 2 ^ m))).size) := Lib.hid (by rw [bcel_size, bitsL_length]; exact hs)
  have HO : Hid ((bcel zb).size = (bcel (bitsL a)).size) := Lib.hid (by rw [bcel_size, bcel_size, bitsL_length, zb, List.length_replicate])
  replace hs := Lib.hid hs
  have HM : Hid ((n < 0 ∧ m = 0) ∨ (0 ≤ n ∧ (m : Int) = n)) := Lib.hid (by omega)
  clear hm
  go_enter Try.func37, Try.ntmps37
  go_upto_if 9 with (fail)
  go_cut [1] (fun s wx => s = .int .i64 (m : Int) ∧ wx = (w.alloc (.cells #[.int .u64 (lim a 0 : Int), .int .u64 (lim a 1 : Int), .int .u64 (lim a 2 : Int), .int .u64 (lim a 3 : Int)] 24)).alloc (.cells #[.int .u64 0, .int .u64 0, .int .u64 0, .int .u64 0] 24))
  case first =>
    rcases HM.out with ⟨h1, h2⟩ | ⟨h1, h2⟩
    · subst h2
      go_wp2
      go_meet
      exact ⟨rfl, rfl⟩
    · obtain rfl : n = (m : Int) := h2.symm
      go_wp2
      go_meet
      exact ⟨rfl, rfl⟩
  case rest =>
    obtain ⟨rfl, rfl⟩ := hcut
    go_wp2_with fail
    refine (HB.out _).mono ?_
    rintro e w1 ⟨rfl, hb1⟩
    have RZ := (Row.new2 w (.cells #[.int .u64 (lim a 0 : Int), .int .u64 (lim a 1 : Int), .int .u64 (lim a 2 : Int), .int .u64 (lim a 3 : Int)] 24) #[.int .u64 0, .int .u64 0, .int .u64 0, .int .u64 0] 24).nx hb1
    have N1 := Lib.hid ((((Nx.refl w).alloc (.cells #[.int .u64 (lim a 0 : Int), .int .u64 (lim a 1 : Int), .int .u64 (lim a 2 : Int), .int .u64 (lim a 3 : Int)] 24)).alloc (.cells #[.int .u64 0, .int .u64 0, .int .u64 0, .int .u64 0] 24)).trans hb1)
    have RT := Row.new w1 (bcel zb) 60 w1.heap.size rfl
    go_wp2_with (first | (refine wpList_store_row rfl 60 (.tmp 5) (.tmp 11) rfl w1.heap.size (bcel (bitsL a)) rfl rfl 60 (bcel zb) RT HSZ.out HO.out (bcel_one _) ?_))
    have HW1 := Lib.hid RZ.lt
    go_loopw [7] (fun i wr => ∃ k : Nat, k ≤ 256 ∧ i = .int .i64 k ∧ Hid (Nx w wr) ∧ Row wr (w.heap.size + 1) #[.int .u64 0, .int .u64 0, .int .u64 0, .int .u64 0] 24 ∧ Row wr w1.heap.size (bcel (bitsL a)) 60 ∧ Row wr (w1.heap.size + 1) (bcel (bitsK (a * 2 ^ m) k)) 60) (fun i _ => 256 - (intOf i).toNat)
    case atStart =>
      refine ⟨0, by omega, rfl, ((N1.out.alloc _).setRow _ N1.out.size).alloc _, ((RZ.alloc _).setRow_other _ (Nat.ne_of_lt HW1.out)).alloc _, (RT.setRow _).alloc _, ?_⟩
      rw [bitsK_zero]
      exact Row.new _ _ _ _ (by rw [size_setRow]; simp)
    case round =>
      obtain ⟨k, hk, rfl, HNX, R0, R1, R2⟩ := hrel
      by_cases hlt : k < 256
      · have hki : (k : Int) < 256 := by omega
        have hk0 : (0 : Int) ≤ (k : Int) := by omega
        have HK := Lib.hid (bitsK_set (a * 2 ^ m) k hlt)
        have HT := Lib.hid (Nat.testBit_mul_two_pow a k m)
        obtain ⟨v2, c2⟩ : ∃ v, wr.cell? ⟨w1.heap.size + 1, k, none⟩ = some v := ⟨_, R2.cell (bcel_get _ k (by rw [bitsK_length _ k hk]; exact hlt))⟩
        have f2 := R2.frozen
        by_cases hmk : m ≤ k
        · obtain ⟨j, hj⟩ : ∃ j, k = m + j := ⟨k - m, by omega⟩
          have hs1 : (k : Int) - (m : Int) = (j : Int) := by omega
          have hj1 : (j : Int) < 256 := by omega
          have hmi : (m : Int) ≤ (k : Int) := by omega
          have cj := R1.cell (bcel_get (bitsL a) j (by rw [bitsL_length]; omega))
          rw [bitsL_get] at cj
          clear hj
          go_wp2
          go_roundw
          case rel =>
            refine ⟨k + 1, by omega, by go_num, HNX.out.setAt _ (by have := HW1.out; omega), R0.other _ _ _ (by have := HW1.out; omega), R1.other _ _ _ (by omega), ?_⟩
            rw [← HK.out, ← bcel_set, HT.out, decide_eq_true hmk, Bool.true_and, show k - m = j by omega]
            exact R2.set k _
          case measure => simp [intOf]; omega
        · have hmi : (k : Int) < (m : Int) := by omega
          go_wp2
          go_roundw
          case rel =>
            refine ⟨k + 1, by omega, by go_num, HNX.out.setAt _ (by have := HW1.out; omega), R0.other _ _ _ (by have := HW1.out; omega), R1.other _ _ _ (by omega), ?_⟩
            rw [← HK.out, ← bcel_set, HT.out, decide_eq_false hmk, Bool.false_and]
            exact R2.set k _
          case measure => simp [intOf]; omega
      · obtain rfl : k = 256 := by omega
        rw [bitsK_all] at R2
        have R2' := R2
        go_wp2_with (first | (refine wpList_load_row rfl 60 (.tmp 6) rfl (w1.heap.size + 1) rfl 60 (bcel (bitsL (a * 2 ^ m))) (0, 0) _ R2' Try.underlying60 rfl HSM.out ?_) | fail)
        refine (HN.out _).mono ?_
        rintro e w2 ⟨rfl, hb2⟩
        obtain ⟨z0, z1, z2, z3⟩ := (R0.nx hb2).zero4
        have f1 := (R0.nx hb2).frozen
        have N2 := Lib.hid (HNX.out.trans hb2)
        clear hb2
        go_wp2
        exact bodyPost_ret (v := .agg #[.int .u64 (lim (a * 2 ^ m) 0 : Int), .int .u64 (lim (a * 2 ^ m) 1 : Int), .int .u64 (lim (a * 2 ^ m) 2 : Int), .int .u64 (lim (a * 2 ^ m) 3 : Int)]) (by simp [results, Try.results37, go_sem, z0, z1, z2, z3, f1]) rfl
          ⟨rfl, by repeat (first | with_reducible exact N2.out | with_reducible apply Nx.drew | with_reducible refine Nx.setAt ?_ _ (by omega))⟩
set_option maxHeartbeats 4000000 in
set_option maxRecDepth 100000 in
theorem refRight_nat (a : Nat) (n : Int) (m : Nat) (hm : n.toNat = m) (w : World) (ha : a < top) (hn0 : -9223372036854775808 ≤ n) (hn : n ≤ 9223372036854775807) :
    Calls Try.prog 39 #[.agg #[.int .u64 (lim a 0 : Int), .int .u64 (lim a 1 : Int), .int .u64 (lim a 2 : Int), .int .u64 (lim a 3 : Int)], .int .i64 n] w fun e w' => e = .returned (.agg #[.int .u64 (lim (a / 2 ^ m) 0 : Int), .int .u64 (lim (a / 2 ^ m) 1 : Int), .int .u64 (lim (a / 2 ^ m) 2 : Int), .int .u64 (lim (a / 2 ^ m) 3 : Int)]) ∧ Nx w w' := by
  obtain ⟨hz, hs⟩ := zero_of_info info_bits
  have HB := Lib.hid (fun w => refBits_any a w)
  have HN := Lib.hid (fun w => refNumber_any (a / 2 ^ m) w)
  have HSZ : Hid ((Try.prog.info? 60).map (·.size) = some (bcel (bitsL a)).size) := Lib.hid (by rw [bcel_size, bitsL_length]; exact hs)
  have HSM : Hid ((Try.prog.info? 60).map (·.size) = some (bcel (bitsL (a / 2 ^ m))).size) := Lib.hid (by rw [bcel_size, bitsL_length]; exact hs)
  have HO : Hid ((bcel zb).size = (bcel (bitsL a)).size) := Lib.hid (by rw [bcel_size, bcel_size, bitsL_length, zb, List.length_replicate])
  replace hs := Lib.hid hs
  have HM : Hid ((n < 0 ∧ m = 0) ∨ (0 ≤ n ∧ (m : Int) = n)) := Lib.hid (by omega)
  have HAH := Lib.hid (fun i (hi : 256 ≤ i) => show a.testBit i = false from Nat.testBit_lt_two_pow (Nat.lt_of_lt_of_le (top_eq ▸ ha) (Nat.pow_le_pow_right (by omega) hi)))
  clear hm ha
  go_enter Try.func39, Try.ntmps39
  go_upto_if 9 with (fail)
  go_cut [1] (fun s wx => s = .int .i64 (m : Int) ∧ wx = (w.alloc (.cells #[.int .u64 (lim a 0 : Int), .int .u64 (lim a 1 : Int), .int .u64 (lim a 2 : Int), .int .u64 (lim a 3 : Int)] 24)).alloc (.cells #[.int .u64 0, .int .u64 0, .int .u64 0, .int .u64 0] 24))
  case first =>
    rcases HM.out with ⟨h1, h2⟩ | ⟨h1, h2⟩
    · subst h2
      go_wp2
      go_meet
      exact ⟨rfl, rfl⟩
    · obtain rfl : n = (m : Int) := h2.symm
      go_wp2
      go_meet
      exact ⟨rfl, rfl⟩
  case rest =>
    obtain ⟨rfl, rfl⟩ := hcut
    go_wp2_with fail
    refine (HB.out _).mono ?_
    rintro e w1 ⟨rfl, hb1⟩
    have RZ := (Row.new2 w (.cells #[.int .u64 (lim a 0 : Int), .int .u64 (lim a 1 : Int), .int .u64 (lim a 2 : Int), .int .u64 (lim a 3 : Int)] 24) #[.int .u64 0, .int .u64 0, .int .u64 0, .int .u64 0] 24).nx hb1
    have N1 := Lib.hid ((((Nx.refl w).alloc (.cells #[.int .u64 (lim a 0 : Int), .int .u64 (lim a 1 : Int), .int .u64 (lim a 2 : Int), .int .u64 (lim a 3 : Int)] 24)).alloc (.cells #[.int .u64 0, .int .u64 0, .int .u64 0, .int .u64 0] 24)).trans hb1)
    have RT := Row.new w1 (bcel zb) 60 w1.heap.size rfl
    go_wp2_with (first | (refine wpList_store_row rfl 60 (.tmp 5) (.tmp 11) rfl w1.heap.size (bcel (bitsL a)) rfl rfl 60 (bcel zb) RT HSZ.out HO.out (bcel_one _) ?_))
    have HW1 := Lib.hid RZ.lt
    go_loopw [7] (fun i wr => ∃ k : Nat, k ≤ 256 ∧ i = .int .i64 k ∧ Hid (Nx w wr) ∧ Row wr (w.heap.size + 1) #[.int .u64 0, .int .u64 0, .int .u64 0, .int .u64 0] 24 ∧ Row wr w1.heap.size (bcel (bitsL a)) 60 ∧ Row wr (w1.heap.size + 1) (bcel (bitsK (a / 2 ^ m) k)) 60) (fun i _ => 256 - (intOf i).toNat)
    case atStart =>
      refine ⟨0, by omega, rfl, ((N1.out.alloc _).setRow _ N1.out.size).alloc _, ((RZ.alloc _).setRow_other _ (Nat.ne_of_lt HW1.out)).alloc _, (RT.setRow _).alloc _, ?_⟩
      rw [bitsK_zero]
      exact Row.new _ _ _ _ (by rw [size_setRow]; simp)
    case round =>
      obtain ⟨k, hk, rfl, HNX, R0, R1, R2⟩ := hrel
      by_cases hlt : k < 256
      · have hki : (k : Int) < 256 := by omega
        have hk0 : (0 : Int) ≤ (k : Int) := by omega
        have HK := Lib.hid (bitsK_set (a / 2 ^ m) k hlt)
        have HT := Lib.hid (show (a / 2 ^ m).testBit k = a.testBit (k + m) by rw [Nat.testBit_div_two_pow])
        obtain ⟨v2, c2⟩ : ∃ v, wr.cell? ⟨w1.heap.size + 1, k, none⟩ = some v := ⟨_, R2.cell (bcel_get _ k (by rw [bitsK_length _ k hk]; exact hlt))⟩
        have f2 := R2.frozen
        by_cases hmk : k + m < 256
        · obtain ⟨j, hj⟩ : ∃ j, k + m = j := ⟨k + m, rfl⟩
          have hs1 : (k : Int) + (m : Int) = (j : Int) := by omega
          have hs2 : (m : Int) ≤ 255 - (k : Int) := by omega
          have hj1 : (j : Int) < 256 := by omega
          have hmi : (m : Int) < 256 - (k : Int) := by omega
          have cj := R1.cell (bcel_get (bitsL a) j (by rw [bitsL_length]; omega))
          rw [bitsL_get] at cj
          rw [hj] at HT
          clear hj
          go_wp2
          go_roundw
          case rel =>
            refine ⟨k + 1, by omega, by go_num, HNX.out.setAt _ (by have := HW1.out; omega), R0.other _ _ _ (by have := HW1.out; omega), R1.other _ _ _ (by omega), ?_⟩
            rw [← HK.out, ← bcel_set, HT.out]
            exact R2.set k _
          case measure => simp [intOf]; omega
        · have hmi : 256 - (k : Int) ≤ (m : Int) := by omega
          go_wp2
          go_roundw
          case rel =>
            refine ⟨k + 1, by omega, by go_num, HNX.out.setAt _ (by have := HW1.out; omega), R0.other _ _ _ (by have := HW1.out; omega), R1.other _ _ _ (by omega), ?_⟩
            rw [← HK.out, ← bcel_set, HT.out, HAH.out _ (by omega)]
            exact R2.set k _
          case measure => simp [intOf]; omega
      · obtain rfl : k = 256 := by omega
        rw [bitsK_all] at R2
        have R2' := R2
        go_wp2_with (first | (refine wpList_load_row rfl 60 (.tmp 6) rfl (w1.heap.size + 1) rfl 60 (bcel (bitsL (a / 2 ^ m))) (0, 0) _ R2' Try.underlying60 rfl HSM.out ?_) | fail)
        refine (HN.out _).mono ?_
        rintro e w2 ⟨rfl, hb2⟩
        obtain ⟨z0, z1, z2, z3⟩ := (R0.nx hb2).zero4
        have f1 := (R0.nx hb2).frozen
        have N2 := Lib.hid (HNX.out.trans hb2)
        clear hb2
        go_wp2
        exact bodyPost_ret (v := .agg #[.int .u64 (lim (a / 2 ^ m) 0 : Int), .int .u64 (lim (a / 2 ^ m) 1 : Int), .int .u64 (lim (a / 2 ^ m) 2 : Int), .int .u64 (lim (a / 2 ^ m) 3 : Int)]) (by simp [results, Try.results39, go_sem, z0, z1, z2, z3, f1]) rfl
          ⟨rfl, by repeat (first | with_reducible exact N2.out | with_reducible apply Nx.drew | with_reducible refine Nx.setAt ?_ _ (by omega))⟩

theorem refLeft_any (a : Nat) (n : Int) (w : World) (ha : a < top) (hn0 : -9223372036854775808 ≤ n) (hn : n ≤ 9223372036854775807) :
    Calls Try.prog 37 #[.agg #[.int .u64 (lim a 0 : Int), .int .u64 (lim a 1 : Int), .int .u64 (lim a 2 : Int), .int .u64 (lim a 3 : Int)], .int .i64 n] w fun e w' => e = .returned (.agg #[.int .u64 (lim (leftN a n) 0 : Int), .int .u64 (lim (leftN a n) 1 : Int), .int .u64 (lim (leftN a n) 2 : Int), .int .u64 (lim (leftN a n) 3 : Int)]) ∧ Nx w w' := by
  have h := refLeft_nat a n _ rfl w hn0 hn
  obtain ⟨e0, e1, e2, e3⟩ := lim_mod (a * 2 ^ n.toNat)
  have e : leftN a n = a * 2 ^ n.toNat % top := by
    unfold leftN
    by_cases h0 : n < 0
    · rw [if_pos h0, show n.toNat = 0 by omega, Nat.pow_zero, Nat.mul_one, Nat.mod_eq_of_lt ha]
    · rw [if_neg h0]
  rw [e, e0, e1, e2, e3]
  exact h
theorem refRight_any (a : Nat) (n : Int) (w : World) (ha : a < top) (hn0 : -9223372036854775808 ≤ n) (hn : n ≤ 9223372036854775807) :
    Calls Try.prog 39 #[.agg #[.int .u64 (lim a 0 : Int), .int .u64 (lim a 1 : Int), .int .u64 (lim a 2 : Int), .int .u64 (lim a 3 : Int)], .int .i64 n] w fun e w' => e = .returned (.agg #[.int .u64 (lim (rightN a n) 0 : Int), .int .u64 (lim (rightN a n) 1 : Int), .int .u64 (lim (rightN a n) 2 : Int), .int .u64 (lim (rightN a n) 3 : Int)]) ∧ Nx w w' := by
  have h := refRight_nat a n _ rfl w ha hn0 hn
  have e : rightN a n = a / 2 ^ n.toNat := by
    unfold rightN
    by_cases h0 : n < 0
    · rw [if_pos h0, show n.toNat = 0 by omega, Nat.pow_zero, Nat.div_one]
    · rw [if_neg h0]
  rw [e]
  exact h
end Go.Proofs.Ytggemncdnclhnaa
