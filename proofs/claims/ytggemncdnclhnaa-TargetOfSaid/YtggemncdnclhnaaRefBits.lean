/- THE REFERENCE OF LAYER 3: Bits. -/
import Derived.Test.YtggemncdnclhnaaBitsPure
import Derived.LoopTactic
namespace Go.Proofs.Ytggemncdnclhnaa
open Go.RowKit
set_option linter.unusedVariables false
set_option linter.unusedSimpArgs false

theorem info_bits : (Try.prog.info? 60).map (fun i => (i.zero, i.size)) = some (some (.agg (bcel zb)), 256) := by kernel_rfl

set_option maxHeartbeats 2000000 in
theorem refBits_any (a : Nat) (w : World) :
    Calls Try.prog 53 #[.agg #[.int .u64 (lim a 0 : Int), .int .u64 (lim a 1 : Int), .int .u64 (lim a 2 : Int), .int .u64 (lim a 3 : Int)]] w fun e w' => e = .returned (.agg (bcel (bitsL a))) ∧ Nx w w' := by
  obtain ⟨hz, hs⟩ := zero_of_info info_bits
  go_enter Try.func53, Try.ntmps53
  go_wp2
  replace hz := Lib.hid hz
  replace hs := Lib.hid hs
  go_loopw [4] (fun i wr => ∃ k : Nat, k ≤ 256 ∧ i = .int .i64 k ∧ Hid (Nx w wr) ∧ Row wr w.heap.size #[.int .u64 (lim a 0 : Int), .int .u64 (lim a 1 : Int), .int .u64 (lim a 2 : Int), .int .u64 (lim a 3 : Int)] 24 ∧ Row wr (w.heap.size + 1) (bcel zb) 60 ∧ Row wr (w.heap.size + 1 + 1) (bcel (bitsK a k)) 60) (fun i _ => 256 - (intOf i).toNat)
  case atStart =>
    refine ⟨0, by omega, rfl, (((Nx.refl w).alloc _).alloc _).alloc _, ((Row.new _ _ _ _ rfl).alloc _).alloc _, (Row.new2 _ _ _ _).alloc _, ?_⟩
    rw [bitsK_zero]
    exact Row.new3 _ _ _ _ _
  case round =>
    obtain ⟨k, hk, rfl, HN, RA, R1, R2⟩ := hrel
    by_cases hlt : k < 256
    · obtain ⟨q, hq⟩ : ∃ q : Nat, (k : Int) / 64 = (q : Int) := ⟨k / 64, by omega⟩
      obtain ⟨r, hr⟩ : ∃ r : Nat, (k : Int) % 64 = (r : Int) := ⟨k % 64, by omega⟩
      have HQ : Hid (q < 4) := show _ < _ by omega
      have HB := Lib.hid (bit_of_limb a k q r (by omega) (by omega))
      have hk0 : (0 : Int) ≤ (k : Int) := by omega
      have hki : (k : Int) < 256 := by omega
      obtain ⟨a0, a1, a2, a3⟩ := RA.four
      obtain ⟨v2, c2⟩ : ∃ v, wr.cell? ⟨w.heap.size + 1 + 1, k, none⟩ = some v := ⟨_, R2.cell (bcel_get _ k (by rw [bitsK_length a k hk]; exact hlt))⟩
      have f2 := R2.frozen
      have HS := Lib.hid (bitsK_set a k hlt)
      obtain ⟨wo, rfl⟩ : ∃ wo : World, wo = wr := ⟨_, rfl⟩
      have hq' : q = 0 ∨ q = 1 ∨ q = 2 ∨ q = 3 := by have := HQ.out; omega
      rcases hq' with rfl | rfl | rfl | rfl
      · have hq2 : (k : Int) / 64 = 0 := hq
        clear hq
        have HX := Lib.hid (lim_le a 0)
        generalize lim a 0 = x at *
        have h0 : (x : Int) = ((x / 2 ^ 0 : Nat) : Int) := by simp
        replace h0 := Lib.hid h0
        go_wp2
        go_loop [5, 6] (fun n j => ∃ m : Nat, m ≤ r ∧ j = .int .i64 m ∧ n = .int .u64 ((x / 2 ^ m : Nat) : Int)) (fun _ j => r - (intOf j).toNat)
        case atStart => exact ⟨0, by omega, rfl, by rw [← h0.out]⟩
        case round =>
          obtain ⟨m, hm, rfl, rfl⟩ := hrel
          have HM : Hid (x / 2 ^ m / 2 = x / 2 ^ (m + 1)) := show _ = _ by rw [Nat.div_div_eq_div_mul, ← Nat.pow_succ]
          have hy : ((x / 2 ^ m : Nat) : Int) ≤ 18446744073709551615 := by have := Nat.div_le_self x (2 ^ m); have := HX.out; omega
          by_cases hmr : m < r
          · have hmr2 : (m : Int) < (r : Int) := by omega
            generalize x / 2 ^ m = y at *
            go_wp2
            go_round
            case rel =>
              refine ⟨m + 1, by omega, by go_num, ?_⟩
              rw [← HM.out]
              rfl
            case measure => simp [intOf]; omega
          · obtain rfl : m = r := by omega
            clear HM
            have HBB := HB
            generalize x / 2 ^ m = y at *
            go_wp2
            go_roundw
            case rel =>
              refine ⟨k + 1, by omega, by go_num, HN.out.setAt _ (by omega), RA.other _ _ _ (by omega), R1.other _ _ _ (by omega), ?_⟩
              rw [← HS.out, ← bcel_set, ← HBB.out]
              exact R2.set k _
            case measure => simp [intOf]; omega
      · have hq2 : (k : Int) / 64 = 1 := hq
        clear hq
        have HX := Lib.hid (lim_le a 1)
        generalize lim a 1 = x at *
        have h0 : (x : Int) = ((x / 2 ^ 0 : Nat) : Int) := by simp
        replace h0 := Lib.hid h0
        go_wp2
        go_loop [5, 6] (fun n j => ∃ m : Nat, m ≤ r ∧ j = .int .i64 m ∧ n = .int .u64 ((x / 2 ^ m : Nat) : Int)) (fun _ j => r - (intOf j).toNat)
        case atStart => exact ⟨0, by omega, rfl, by rw [← h0.out]⟩
        case round =>
          obtain ⟨m, hm, rfl, rfl⟩ := hrel
          have HM : Hid (x / 2 ^ m / 2 = x / 2 ^ (m + 1)) := show _ = _ by rw [Nat.div_div_eq_div_mul, ← Nat.pow_succ]
          have hy : ((x / 2 ^ m : Nat) : Int) ≤ 18446744073709551615 := by have := Nat.div_le_self x (2 ^ m); have := HX.out; omega
          by_cases hmr : m < r
          · have hmr2 : (m : Int) < (r : Int) := by omega
            generalize x / 2 ^ m = y at *
            go_wp2
            go_round
            case rel =>
              refine ⟨m + 1, by omega, by go_num, ?_⟩
              rw [← HM.out]
              rfl
            case measure => simp [intOf]; omega
          · obtain rfl : m = r := by omega
            clear HM
            have HBB := HB
            generalize x / 2 ^ m = y at *
            go_wp2
            go_roundw
            case rel =>
              refine ⟨k + 1, by omega, by go_num, HN.out.setAt _ (by omega), RA.other _ _ _ (by omega), R1.other _ _ _ (by omega), ?_⟩
              rw [← HS.out, ← bcel_set, ← HBB.out]
              exact R2.set k _
            case measure => simp [intOf]; omega
      · have hq2 : (k : Int) / 64 = 2 := hq
        clear hq
        have HX := Lib.hid (lim_le a 2)
        generalize lim a 2 = x at *
        have h0 : (x : Int) = ((x / 2 ^ 0 : Nat) : Int) := by simp
        replace h0 := Lib.hid h0
        go_wp2
        go_loop [5, 6] (fun n j => ∃ m : Nat, m ≤ r ∧ j = .int .i64 m ∧ n = .int .u64 ((x / 2 ^ m : Nat) : Int)) (fun _ j => r - (intOf j).toNat)
        case atStart => exact ⟨0, by omega, rfl, by rw [← h0.out]⟩
        case round =>
          obtain ⟨m, hm, rfl, rfl⟩ := hrel
          have HM : Hid (x / 2 ^ m / 2 = x / 2 ^ (m + 1)) := show _ = _ by rw [Nat.div_div_eq_div_mul, ← Nat.pow_succ]
          have hy : ((x / 2 ^ m : Nat) : Int) ≤ 18446744073709551615 := by have := Nat.div_le_self x (2 ^ m); have := HX.out; omega
          by_cases hmr : m < r
          · have hmr2 : (m : Int) < (r : Int) := by omega
            generalize x / 2 ^ m = y at *
            go_wp2
            go_round
            case rel =>
              refine ⟨m + 1, by omega, by go_num, ?_⟩
              rw [← HM.out]
              rfl
            case measure => simp [intOf]; omega
          · obtain rfl : m = r := by omega
            clear HM
            have HBB := HB
            generalize x / 2 ^ m = y at *
            go_wp2
            go_roundw
            case rel =>
              refine ⟨k + 1, by omega, by go_num, HN.out.setAt _ (by omega), RA.other _ _ _ (by omega), R1.other _ _ _ (by omega), ?_⟩
              rw [← HS.out, ← bcel_set, ← HBB.out]
              exact R2.set k _
            case measure => simp [intOf]; omega
      · have hq2 : (k : Int) / 64 = 3 := hq
        clear hq
        have HX := Lib.hid (lim_le a 3)
        generalize lim a 3 = x at *
        have h0 : (x : Int) = ((x / 2 ^ 0 : Nat) : Int) := by simp
        replace h0 := Lib.hid h0
        go_wp2
        go_loop [5, 6] (fun n j => ∃ m : Nat, m ≤ r ∧ j = .int .i64 m ∧ n = .int .u64 ((x / 2 ^ m : Nat) : Int)) (fun _ j => r - (intOf j).toNat)
        case atStart => exact ⟨0, by omega, rfl, by rw [← h0.out]⟩
        case round =>
          obtain ⟨m, hm, rfl, rfl⟩ := hrel
          have HM : Hid (x / 2 ^ m / 2 = x / 2 ^ (m + 1)) := show _ = _ by rw [Nat.div_div_eq_div_mul, ← Nat.pow_succ]
          have hy : ((x / 2 ^ m : Nat) : Int) ≤ 18446744073709551615 := by have := Nat.div_le_self x (2 ^ m); have := HX.out; omega
          by_cases hmr : m < r
          · have hmr2 : (m : Int) < (r : Int) := by omega
            generalize x / 2 ^ m = y at *
            go_wp2
            go_round
            case rel =>
              refine ⟨m + 1, by omega, by go_num, ?_⟩
              rw [← HM.out]
              rfl
            case measure => simp [intOf]; omega
          · obtain rfl : m = r := by omega
            clear HM
            have HBB := HB
            generalize x / 2 ^ m = y at *
            go_wp2
            go_roundw
            case rel =>
              refine ⟨k + 1, by omega, by go_num, HN.out.setAt _ (by omega), RA.other _ _ _ (by omega), R1.other _ _ _ (by omega), ?_⟩
              rw [← HS.out, ← bcel_set, ← HBB.out]
              exact R2.set k _
            case measure => simp [intOf]; omega
    · obtain rfl : k = 256 := by omega
      rw [bitsK_all] at R2
      have hsz : (Try.prog.info? 60).map (·.size) = some (bcel (bitsL a)).size := by rw [bcel_size, bitsL_length]; exact hs.out
      have hsz := Lib.hid hsz
      have ho : (bcel zb).size = (bcel (bitsL a)).size := by rw [bcel_size, bcel_size, bitsL_length, zb, List.length_replicate]
      have ho := Lib.hid ho
      have hl : w.heap.size ≤ w.heap.size + 1 := by omega
      have R1' := R1
      have R2' := R2
      go_wp2_with (first | (refine wpList_load_row rfl 60 (.tmp 3) rfl (w.heap.size + 1 + 1) rfl 60 (bcel (bitsL a)) (0, 0) _ R2' Try.underlying60 rfl hsz.out ?_) | (refine wpList_store_row rfl 60 (.tmp 2) (.tmp 28) rfl (w.heap.size + 1) (bcel (bitsL a)) rfl rfl 60 (bcel zb) R1' hsz.out ho.out (bcel_one _) ?_))
      exact bodyPost_ret (results_cell_row Try.results53 _ _ (w.heap.size + 1) 60 (bcel (bitsL a)) (0, 0) _ rfl (R1'.setRow _) Try.underlying60 rfl hsz.out) rfl ⟨rfl, HN.out.setRow _ hl⟩
end Go.Proofs.Ytggemncdnclhnaa
