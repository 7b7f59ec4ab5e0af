/- TEXTS OF OUR OWN, IN ONE FILE. -/
import Derived.Test.YtjbeemoobmagnaaDoorGa
import Derived.LoopTactic
import Derived.Outline
import Derived.Deep.QuietTactic
import Derived.BigQuiet
import Derived.IntWalk
import Derived.Test.YtjbeemoobmagnaaDoorShelf
import Derived.Lib.BitFns
import Derived.Test.YtjbeemoobmagnaaDoorGb
import Derived.Deep.WholeRow
import Derived.Deep.Upon
section
namespace Go.Proofs.YtjbeemoobmagnaaDoor
open Go.RowKit
set_option linter.unusedVariables false
set_option linter.unusedSimpArgs false

theorem half_any (n : Int) (w : World) :
    Calls Tryd.prog 112 #[.int .u64 n] w fun e w' => e = .returned (.int .u64 (n % 4294967296)) ∧ w' = w := by
  go_enter Tryd.func112, Tryd.ntmps112
  go_wp2
  go_ret
  exact ⟨rfl, rfl⟩

/-- The row of a sum that goes on, k limbs done. -/
def rowK (a s : Nat) : Nat → Array Value
  | 0 => #[.int .u64 (lim a 0 : Int), .int .u64 (lim a 1 : Int), .int .u64 (lim a 2 : Int), .int .u64 (lim a 3 : Int)]
  | 1 => #[.int .u64 (lim s 0 : Int), .int .u64 (lim a 1 : Int), .int .u64 (lim a 2 : Int), .int .u64 (lim a 3 : Int)]
  | 2 => #[.int .u64 (lim s 0 : Int), .int .u64 (lim s 1 : Int), .int .u64 (lim a 2 : Int), .int .u64 (lim a 3 : Int)]
  | 3 => #[.int .u64 (lim s 0 : Int), .int .u64 (lim s 1 : Int), .int .u64 (lim s 2 : Int), .int .u64 (lim a 3 : Int)]
  | _ => #[.int .u64 (lim s 0 : Int), .int .u64 (lim s 1 : Int), .int .u64 (lim s 2 : Int), .int .u64 (lim s 3 : Int)]

set_option maxHeartbeats 2000000 in
theorem addLimbs_any (a b c : Nat) (w : World) (hc : c ≤ 1) :
    Calls Tryd.prog 108 #[.agg #[.int .u64 (lim a 0 : Int), .int .u64 (lim a 1 : Int), .int .u64 (lim a 2 : Int), .int .u64 (lim a 3 : Int)], .agg #[.int .u64 (lim b 0 : Int), .int .u64 (lim b 1 : Int), .int .u64 (lim b 2 : Int), .int .u64 (lim b 3 : Int)], .int .u64 (c : Int)] w fun e w' => e = .returned (.tuple #[.agg #[.int .u64 (lim (a + b + c) 0 : Int), .int .u64 (lim (a + b + c) 1 : Int), .int .u64 (lim (a + b + c) 2 : Int), .int .u64 (lim (a + b + c) 3 : Int)], .int .u64 (car a b c 4 : Int)]) ∧ Nx w w' := by
  have HS := Lib.hid (sum_step a b c)
  have HC := Lib.hid (fun k => car_le a b c k hc)
  have HA := Lib.hid (lim_lt a)
  have HB := Lib.hid (lim_lt b)
  have h0 : ((car a b c 0 : Nat) : Int) = (c : Int) := by rw [car0]
  rw [← h0]
  clear h0 hc
  generalize a + b + c = s at *
  go_enter Tryd.func108, Tryd.ntmps108
  go_wp2
  go_loopw [2, 11] (fun cv i wr => ∃ k : Nat, k ≤ 4 ∧ i = .int .i64 k ∧ cv = .int .u64 (car a b c k : Int) ∧ ∃ n, wr = (((w.alloc (.cells (rowK a s k) 81)).alloc (.cells (rowK b s 0) 81)).alloc (.cells #[.int .u64 0, .int .u64 0, .int .u64 0, .int .u64 0] 81)).drewN n) (fun _ i _ => 4 - (intOf i).toNat)
  case atStart => exact ⟨0, by omega, rfl, rfl, 0, rfl⟩
  case round =>
    obtain ⟨k, hk, rfl, rfl, n, rfl⟩ := hrel
    have hk' : k = 0 ∨ k = 1 ∨ k = 2 ∨ k = 3 ∨ k = 4 := by omega
    clear hk
    rcases hk' with rfl | rfl | rfl | rfl | rfl
    · have HS0 := Lib.hid (HS.out 0)
      have hc0 := HC.out 0
      have hx := lim_le a 0
      have hy := lim_le b 0
      have HX := Lib.hid (lim_lt a 0)
      have HY := Lib.hid (lim_lt b 0)
      clear HS HC HA HB
      simp only [rowK]
      generalize lim a 0 = x at *
      generalize lim b 0 = y at *
      generalize car a b c 0 = cc at *
      go_wp2
      go_quiet ((first | (go_at_call 112; exact still2 (half_any _))))
      go_wp2
      go_quiet (fail)
      go_wp2_with (go_at_call 112; refine (half_any _ _).mono ?_; rintro e w' ⟨rfl, rfl⟩)
      go_roundw
      case rel =>
        refine ⟨1, by omega, rfl, by rw [carry_of, ← HS0.out.2], ?_⟩
        apply Exists.intro
        rw [IntKind.wrap_u64, halves x y cc HX.out HY.out hc0, ← HS0.out.1, put3a]
        rfl
      case measure => simp [intOf]
    · have HS0 := Lib.hid (HS.out 1)
      have hc0 := HC.out 1
      have hx := lim_le a 1
      have hy := lim_le b 1
      have HX := Lib.hid (lim_lt a 1)
      have HY := Lib.hid (lim_lt b 1)
      clear HS HC HA HB
      simp only [rowK]
      generalize lim a 1 = x at *
      generalize lim b 1 = y at *
      generalize car a b c 1 = cc at *
      go_wp2
      go_quiet ((first | (go_at_call 112; exact still2 (half_any _))))
      go_wp2
      go_quiet (fail)
      go_wp2_with (go_at_call 112; refine (half_any _ _).mono ?_; rintro e w' ⟨rfl, rfl⟩)
      go_roundw
      case rel =>
        refine ⟨2, by omega, rfl, by rw [carry_of, ← HS0.out.2], ?_⟩
        apply Exists.intro
        rw [IntKind.wrap_u64, halves x y cc HX.out HY.out hc0, ← HS0.out.1, put3a]
        rfl
      case measure => simp [intOf]
    · have HS0 := Lib.hid (HS.out 2)
      have hc0 := HC.out 2
      have hx := lim_le a 2
      have hy := lim_le b 2
      have HX := Lib.hid (lim_lt a 2)
      have HY := Lib.hid (lim_lt b 2)
      clear HS HC HA HB
      simp only [rowK]
      generalize lim a 2 = x at *
      generalize lim b 2 = y at *
      generalize car a b c 2 = cc at *
      go_wp2
      go_quiet ((first | (go_at_call 112; exact still2 (half_any _))))
      go_wp2
      go_quiet (fail)
      go_wp2_with (go_at_call 112; refine (half_any _ _).mono ?_; rintro e w' ⟨rfl, rfl⟩)
      go_roundw
      case rel =>
        refine ⟨3, by omega, rfl, by rw [carry_of, ← HS0.out.2], ?_⟩
        apply Exists.intro
        rw [IntKind.wrap_u64, halves x y cc HX.out HY.out hc0, ← HS0.out.1, put3a]
        rfl
      case measure => simp [intOf]
    · have HS0 := Lib.hid (HS.out 3)
      have hc0 := HC.out 3
      have hx := lim_le a 3
      have hy := lim_le b 3
      have HX := Lib.hid (lim_lt a 3)
      have HY := Lib.hid (lim_lt b 3)
      clear HS HC HA HB
      simp only [rowK]
      generalize lim a 3 = x at *
      generalize lim b 3 = y at *
      generalize car a b c 3 = cc at *
      go_wp2
      go_quiet ((first | (go_at_call 112; exact still2 (half_any _))))
      go_wp2
      go_quiet (fail)
      go_wp2_with (go_at_call 112; refine (half_any _ _).mono ?_; rintro e w' ⟨rfl, rfl⟩)
      go_roundw
      case rel =>
        refine ⟨4, by omega, rfl, by rw [carry_of, ← HS0.out.2], ?_⟩
        apply Exists.intro
        rw [IntKind.wrap_u64, halves x y cc HX.out HY.out hc0, ← HS0.out.1, put3a]
        rfl
      case measure => simp [intOf]
    · simp only [rowK]
      go_wp2
      exact bodyPost_ret (v := .tuple #[.agg #[.int .u64 (lim s 0 : Int), .int .u64 (lim s 1 : Int), .int .u64 (lim s 2 : Int), .int .u64 (lim s 3 : Int)], .int .u64 (car a b c 4 : Int)]) (by simp [results, Tryd.results108, go_sem]) rfl ⟨rfl, by repeat (first | exact Nx.refl _ | apply Nx.drewN | apply Nx.alloc | refine Nx.setAt ?_ _ (by omega))⟩
end Go.Proofs.YtjbeemoobmagnaaDoor
end

section
namespace Go.Proofs.YtjbeemoobmagnaaDoor
open Go.RowKit
set_option linter.unusedVariables false
set_option linter.unusedSimpArgs false

theorem lim_small {n : Nat} (h : (n : Int) ≤ 18446744073709551615) : lim n 0 = n ∧ lim n 1 = 0 ∧ lim n 2 = 0 ∧ lim n 3 = 0 := by
  rw [lim0, lim1, lim2, lim3]; omega

theorem of_any (n : Nat) (w : World) (h : (n : Int) ≤ 18446744073709551615) :
    Calls Tryd.prog 91 #[.int .u64 (n : Int)] w fun e w' => e = .returned (.agg #[.int .u64 (lim n 0 : Int), .int .u64 (lim n 1 : Int), .int .u64 (lim n 2 : Int), .int .u64 (lim n 3 : Int)]) ∧ Nx w w' := by
  obtain ⟨e0, e1, e2, e3⟩ := lim_small h
  rw [e0, e1, e2, e3]
  clear e0 e1 e2 e3
  go_enter Tryd.func91, Tryd.ntmps91
  go_wp2
  exact bodyPost_ret (v := .agg #[.int .u64 (n : Int), .int .u64 0, .int .u64 0, .int .u64 0]) (by simp [results, Tryd.results91, go_sem]) rfl ⟨rfl, by repeat (first | exact Nx.refl _ | apply Nx.drewN | apply Nx.alloc | refine Nx.setAt ?_ _ (by omega))⟩

theorem turn_u64' (x : Nat) (hx : x < 18446744073709551616) : bits .xor .u64 (if IntKind.u64.signed = true then -1 else IntKind.u64.max) (x : Int) = ((18446744073709551615 - x : Nat) : Int) := by
  rw [← turn_u64 x hx]; rfl
set_option maxHeartbeats 1000000 in
theorem sub_any (a b : Nat) (w : World) (ha : a < top) (hb : b < top) :
    Calls Tryd.prog 101 #[.agg #[.int .u64 (lim a 0 : Int), .int .u64 (lim a 1 : Int), .int .u64 (lim a 2 : Int), .int .u64 (lim a 3 : Int)], .agg #[.int .u64 (lim b 0 : Int), .int .u64 (lim b 1 : Int), .int .u64 (lim b 2 : Int), .int .u64 (lim b 3 : Int)]] w fun e w' => e = .returned (.tuple #[.agg #[.int .u64 (lim (subN a b) 0 : Int), .int .u64 (lim (subN a b) 1 : Int), .int .u64 (lim (subN a b) 2 : Int), .int .u64 (lim (subN a b) 3 : Int)], .bool (subB a b)]) ∧ Nx w w' := by
  have H := fun w => addLimbs_any a (turnN b) 1 w (by omega)
  obtain ⟨e0, e1, e2, e3, hcb⟩ := sub_facts a b ha hb
  rw [e0, e1, e2, e3] at H
  clear e0 e1 e2 e3
  have HT := Lib.hid (turn_lim b hb)
  have HB := Lib.hid (lim_lt b)
  replace H := Lib.hid H
  go_enter Tryd.func101, Tryd.ntmps101
  go_wp2
  go_loopw [9] (fun i wr => ∃ k : Nat, k ≤ 4 ∧ i = .int .i64 k ∧ ∃ n, wr = (((w.alloc (.cells #[.int .u64 (lim a 0 : Int), .int .u64 (lim a 1 : Int), .int .u64 (lim a 2 : Int), .int .u64 (lim a 3 : Int)] 81)).alloc (.cells (rowK b (turnN b) k) 81)).alloc (.cells #[.int .u64 0, .int .u64 0, .int .u64 0, .int .u64 0] 81)).drewN n) (fun i _ => 4 - (intOf i).toNat)
  case atStart => exact ⟨0, by omega, rfl, 0, rfl⟩
  case round =>
    obtain ⟨k, hk, rfl, n, rfl⟩ := hrel
    have hk' : k = 0 ∨ k = 1 ∨ k = 2 ∨ k = 3 ∨ k = 4 := by omega
    clear hk
    rcases hk' with rfl | rfl | rfl | rfl | rfl
    · simp only [rowK]
      go_wp2
      go_roundw
      case rel =>
        refine ⟨1, by omega, rfl, ?_⟩
        apply Exists.intro
        rw [put3b, turn_u64' _ (HB.out _)]
        obtain ⟨t0, t1, t2, t3⟩ := HT.out
        first | rw [← t0] | rw [← t1] | rw [← t2] | rw [← t3]
        rfl
      case measure => simp [intOf]
    · simp only [rowK]
      go_wp2
      go_roundw
      case rel =>
        refine ⟨2, by omega, rfl, ?_⟩
        apply Exists.intro
        rw [put3b, turn_u64' _ (HB.out _)]
        obtain ⟨t0, t1, t2, t3⟩ := HT.out
        first | rw [← t0] | rw [← t1] | rw [← t2] | rw [← t3]
        rfl
      case measure => simp [intOf]
    · simp only [rowK]
      go_wp2
      go_roundw
      case rel =>
        refine ⟨3, by omega, rfl, ?_⟩
        apply Exists.intro
        rw [put3b, turn_u64' _ (HB.out _)]
        obtain ⟨t0, t1, t2, t3⟩ := HT.out
        first | rw [← t0] | rw [← t1] | rw [← t2] | rw [← t3]
        rfl
      case measure => simp [intOf]
    · simp only [rowK]
      go_wp2
      go_roundw
      case rel =>
        refine ⟨4, by omega, rfl, ?_⟩
        apply Exists.intro
        rw [put3b, turn_u64' _ (HB.out _)]
        obtain ⟨t0, t1, t2, t3⟩ := HT.out
        first | rw [← t0] | rw [← t1] | rw [← t2] | rw [← t3]
        rfl
      case measure => simp [intOf]
    · simp only [rowK]
      go_wp2_with fail
      refine (H.out _).mono ?_
      rintro e w' ⟨rfl, hb⟩
      have N0 := Lib.hid (((((Nx.refl w).alloc _).alloc _).alloc _).drewN _ |>.trans hb)
      obtain ⟨hc, hf, hz⟩ := hb.facts
      simp only [drewN_size, alloc_size] at hz
      have hz' : w.heap.size + 2 < w'.heap.size := by omega
      clear H hb hz
      go_wp2
      exact bodyPost_ret (v := .tuple #[.agg #[.int .u64 (lim (subN a b) 0 : Int), .int .u64 (lim (subN a b) 1 : Int), .int .u64 (lim (subN a b) 2 : Int), .int .u64 (lim (subN a b) 3 : Int)], .bool (subB a b)]) (by simp [results, Tryd.results101, go_sem, hc, hz']) rfl ⟨rfl, by repeat (first | exact N0.out | apply Nx.drewN | apply Nx.alloc | refine Nx.setAt ?_ _ (by omega))⟩

set_option maxHeartbeats 400000 in
theorem less_any (a b : Nat) (w : World) (ha : a < top) (hb : b < top) :
    Calls Tryd.prog 84 #[.agg #[.int .u64 (lim a 0 : Int), .int .u64 (lim a 1 : Int), .int .u64 (lim a 2 : Int), .int .u64 (lim a 3 : Int)], .agg #[.int .u64 (lim b 0 : Int), .int .u64 (lim b 1 : Int), .int .u64 (lim b 2 : Int), .int .u64 (lim b 3 : Int)]] w fun e w' => e = .returned (.bool (subB a b)) ∧ Nx w w' := by
  have H := Lib.hid (fun w => sub_any a b w ha hb)
  clear ha hb
  go_enter Tryd.func84, Tryd.ntmps84
  go_wp2_with fail
  refine (H.out _).mono ?_
  rintro e w' ⟨rfl, hb⟩
  have N0 := Lib.hid (((Nx.refl w).alloc _).alloc _ |>.trans hb)
  clear H hb
  go_wp2
  go_ret
  exact ⟨rfl, by repeat (first | exact N0.out | apply Nx.drewN | apply Nx.alloc | refine Nx.setAt ?_ _ (by omega))⟩
end Go.Proofs.YtjbeemoobmagnaaDoor
end

section
namespace Go.Proofs.YtjbeemoobmagnaaDoor
open Go.RowKit
set_option linter.unusedVariables false
set_option linter.unusedSimpArgs false

theorem mul_split (a n : Int) : a * n = (a / 4294967296) * (n / 4294967296) * 18446744073709551616 + ((a % 4294967296) * (n / 4294967296) + (a / 4294967296) * (n % 4294967296)) * 4294967296 + (a % 4294967296) * (n % 4294967296) := by
  have h1 : a = a / 4294967296 * 4294967296 + a % 4294967296 := by omega
  have h2 : n = n / 4294967296 * 4294967296 + n % 4294967296 := by omega
  have h3 : a * n = (a / 4294967296 * 4294967296 + a % 4294967296) * (n / 4294967296 * 4294967296 + n % 4294967296) := by rw [← h1, ← h2]
  rw [h3]
  generalize a / 4294967296 = x
  generalize a % 4294967296 = y
  generalize n / 4294967296 = z
  generalize n % 4294967296 = t
  grind
theorem prod_le (a b : Int) (ha0 : 0 ≤ a) (ha : a ≤ 4294967295) (hb0 : 0 ≤ b) (hb : b ≤ 4294967295) : 0 ≤ a * b ∧ a * b ≤ 18446744065119617025 := by
  refine ⟨Int.mul_nonneg ha0 hb0, ?_⟩
  have := Int.mul_le_mul ha hb hb0 (by omega : (0 : Int) ≤ 4294967295)
  omega
theorem mul_limb (a n c : Nat) (ha : (a : Int) ≤ 18446744073709551615) (hn : (n : Int) ≤ 18446744073709551615) (hc : (c : Int) ≤ 18446744073709551615) :
    bits BinOp.or IntKind.u64 (IntKind.u64.wrap (IntKind.u64.wrap (IntKind.u64.wrap ((a : Int) % 4294967296 * ((n : Int) / 4294967296)) + IntKind.u64.wrap (IntKind.u64.wrap (IntKind.u64.wrap ((a : Int) / 4294967296 * ((n : Int) % 4294967296)) + IntKind.u64.wrap (IntKind.u64.wrap ((a : Int) % 4294967296 * ((n : Int) % 4294967296)) + (c : Int) % 4294967296) / 4294967296) + (c : Int) / 4294967296) % 4294967296) * 4294967296))
      (IntKind.u64.wrap (IntKind.u64.wrap ((a : Int) % 4294967296 * ((n : Int) % 4294967296)) + (c : Int) % 4294967296) % 4294967296) = (((a * n + c) % 18446744073709551616 : Nat) : Int) ∧
    IntKind.u64.wrap (IntKind.u64.wrap (IntKind.u64.wrap ((a : Int) / 4294967296 * ((n : Int) / 4294967296)) + IntKind.u64.wrap (IntKind.u64.wrap (IntKind.u64.wrap ((a : Int) / 4294967296 * ((n : Int) % 4294967296)) + IntKind.u64.wrap (IntKind.u64.wrap ((a : Int) % 4294967296 * ((n : Int) % 4294967296)) + (c : Int) % 4294967296) / 4294967296) + (c : Int) / 4294967296) / 4294967296) +
      IntKind.u64.wrap (IntKind.u64.wrap ((a : Int) % 4294967296 * ((n : Int) / 4294967296)) + IntKind.u64.wrap (IntKind.u64.wrap (IntKind.u64.wrap ((a : Int) / 4294967296 * ((n : Int) % 4294967296)) + IntKind.u64.wrap (IntKind.u64.wrap ((a : Int) % 4294967296 * ((n : Int) % 4294967296)) + (c : Int) % 4294967296) / 4294967296) + (c : Int) / 4294967296) % 4294967296) / 4294967296) = (((a * n + c) / 18446744073709551616 : Nat) : Int) := by
  have e0 : ((a * n + c : Nat) : Int) = (a : Int) * (n : Int) + (c : Int) := by simp
  have hs := mul_split (a : Int) (n : Int)
  have h1 := prod_le ((a : Int) % 4294967296) ((n : Int) % 4294967296) (by omega) (by omega) (by omega) (by omega)
  have h2 := prod_le ((a : Int) % 4294967296) ((n : Int) / 4294967296) (by omega) (by omega) (by omega) (by omega)
  have h3 := prod_le ((a : Int) / 4294967296) ((n : Int) % 4294967296) (by omega) (by omega) (by omega) (by omega)
  have h4 := prod_le ((a : Int) / 4294967296) ((n : Int) / 4294967296) (by omega) (by omega) (by omega) (by omega)
  have hc1 : 0 ≤ (c : Int) % 4294967296 ∧ (c : Int) % 4294967296 ≤ 4294967295 := by omega
  have hc2 : 0 ≤ (c : Int) / 4294967296 ∧ (c : Int) / 4294967296 ≤ 4294967295 := by omega
  have hc3 : (c : Int) = (c : Int) / 4294967296 * 4294967296 + (c : Int) % 4294967296 := by omega
  rw [Int.natCast_emod, Int.natCast_ediv, e0, hs]
  simp only [IntKind.wrap_u64]
  generalize (a : Int) % 4294967296 * ((n : Int) % 4294967296) = P at *
  generalize (a : Int) % 4294967296 * ((n : Int) / 4294967296) = R at *
  generalize (a : Int) / 4294967296 * ((n : Int) % 4294967296) = Q at *
  generalize (a : Int) / 4294967296 * ((n : Int) / 4294967296) = S at *
  generalize (c : Int) % 4294967296 = cl at *
  generalize (c : Int) / 4294967296 = ch at *
  have k1 : P % 18446744073709551616 = P := by omega
  have k2 : Q % 18446744073709551616 = Q := by omega
  have k3 : R % 18446744073709551616 = R := by omega
  have k4 : S % 18446744073709551616 = S := by omega
  rw [k1, k2, k3, k4]
  have k5 : (P + cl) % 18446744073709551616 = P + cl := by omega
  rw [k5]
  have k6 : (Q + (P + cl) / 4294967296) % 18446744073709551616 = Q + (P + cl) / 4294967296 := by omega
  rw [k6]
  have k7 : (Q + (P + cl) / 4294967296 + ch) % 18446744073709551616 = Q + (P + cl) / 4294967296 + ch := by omega
  rw [k7]
  generalize hm : Q + (P + cl) / 4294967296 + ch = mid at *
  have k8 : (R + mid % 4294967296) % 18446744073709551616 = R + mid % 4294967296 := by omega
  rw [k8]
  constructor
  · obtain ⟨x, hx⟩ := Int.eq_ofNat_of_zero_le (show 0 ≤ (R + mid % 4294967296) * 4294967296 % 18446744073709551616 by omega)
    obtain ⟨y, hy⟩ := Int.eq_ofNat_of_zero_le (show 0 ≤ (P + cl) % 4294967296 by omega)
    rw [hx, hy, u64_or_nat _ _ (by omega) (by omega), nat_join 32 _ _ (by omega) (by omega)]
    rw [Int.natCast_add, ← hx, ← hy]
    have e1 : ((18446744073709551616 : Nat) : Int) = 18446744073709551616 := rfl
    rw [e1]
    omega
  · have e1 : ((18446744073709551616 : Nat) : Int) = 18446744073709551616 := rfl
    rw [e1]
    omega
end Go.Proofs.YtjbeemoobmagnaaDoor
end

section
namespace Go.Proofs.YtjbeemoobmagnaaDoor
open Go.RowKit
set_option linter.unusedVariables false
set_option linter.unusedSimpArgs false

/-- How many bits n has. -/
def blen (n : Nat) : Nat := if n = 0 then 0 else n.log2 + 1
theorem blen_zero : blen 0 = 0 := rfl
theorem blen_spec (n : Nat) : n < 2 ^ blen n := by
  unfold blen; split
  · subst_vars; decide
  · exact Nat.lt_log2_self
theorem blen_low (n : Nat) (h : n ≠ 0) : 2 ^ (blen n - 1) ≤ n := by
  unfold blen; rw [if_neg h]; exact Nat.log2_self_le h
theorem blen_of {n k : Nat} (h : n ≠ 0) (h1 : 2 ^ k ≤ n) (h2 : n < 2 ^ (k + 1)) : blen n = k + 1 := by
  unfold blen; rw [if_neg h, (Nat.log2_eq_iff h).2 ⟨h1, h2⟩]
theorem lib_blen : ∀ (x : Nat), x < 2 ^ 64 → Lib.bitLen x = blen x := by
  intro x
  induction x using Nat.strongRecOn with
  | ind x ih =>
    intro hx
    by_cases h0 : x = 0
    · subst h0; decide
    · rw [Lib.bitLen_half x h0 hx, ih (x / 2) (by omega) (by omega)]
      by_cases h1 : x = 1
      · subst h1; decide
      · have hh : x / 2 ≠ 0 := by omega
        have a1 := blen_low _ hh
        have a2 := blen_spec (x / 2)
        have hb : 1 ≤ blen (x / 2) := by unfold blen; rw [if_neg hh]; omega
        generalize blen (x / 2) = m at *
        obtain ⟨m, rfl⟩ : ∃ j, m = j + 1 := ⟨m - 1, by omega⟩
        rw [Nat.add_sub_cancel] at a1
        rw [blen_of (k := m + 1) h0 (by rw [Nat.pow_succ]; omega) (by rw [Nat.pow_succ]; omega)]
        omega
theorem blen_limb (a i : Nat) (h : lim a i ≠ 0) (hu : a < 2 ^ (64 * (i + 1))) : blen a = 64 * i + blen (lim a i) := by
  have hl : lim a i = a / 2 ^ (64 * i) := by
    unfold lim
    refine Nat.mod_eq_of_lt ?_
    rw [Nat.div_lt_iff_lt_mul (Nat.pow_pos (by omega)), show (18446744073709551616 : Nat) = 2 ^ 64 by decide, ← Nat.pow_add, show 64 + 64 * i = 64 * (i + 1) by omega]
    exact hu
  rw [hl] at h ⊢
  have hp : 0 < 2 ^ (64 * i) := Nat.pow_pos (by omega)
  have a1 := blen_low _ h
  have a2 := blen_spec (a / 2 ^ (64 * i))
  have hb : 1 ≤ blen (a / 2 ^ (64 * i)) := by unfold blen; rw [if_neg h]; omega
  have ha : a ≠ 0 := by rintro rfl; simp at h
  generalize blen (a / 2 ^ (64 * i)) = m at *
  obtain ⟨m, rfl⟩ : ∃ j, m = j + 1 := ⟨m - 1, by omega⟩
  rw [Nat.add_sub_cancel] at a1
  rw [blen_of (k := 64 * i + m) ha]
  · omega
  · rw [Nat.pow_add, Nat.mul_comm]
    exact (Nat.le_div_iff_mul_le hp).1 a1
  · rw [show 64 * i + m + 1 = (m + 1) + 64 * i by omega, Nat.pow_add]
    exact (Nat.div_lt_iff_lt_mul hp).1 a2
theorem under3 (a : Nat) (ha : a < top) (h3 : lim a 3 = 0) : a < 2 ^ (64 * 3) := by
  rw [lim3] at h3
  rw [show (2 : Nat) ^ (64 * 3) = 6277101735386680763835789423207666416102355444464034512896 by decide +kernel]
  unfold top at ha; omega
theorem under2 (a : Nat) (ha : a < top) (h3 : lim a 3 = 0) (h2 : lim a 2 = 0) : a < 2 ^ (64 * 2) := by
  rw [lim3] at h3; rw [lim2] at h2
  rw [show (2 : Nat) ^ (64 * 2) = 340282366920938463463374607431768211456 by decide +kernel]
  unfold top at ha; omega
theorem under1 (a : Nat) (ha : a < top) (h3 : lim a 3 = 0) (h2 : lim a 2 = 0) (h1 : lim a 1 = 0) : a < 2 ^ (64 * 1) := by
  rw [lim3] at h3; rw [lim2] at h2; rw [lim1] at h1
  rw [show (2 : Nat) ^ (64 * 1) = 18446744073709551616 by decide +kernel]
  unfold top at ha; omega
theorem under0 (a : Nat) (ha : a < top) (h3 : lim a 3 = 0) (h2 : lim a 2 = 0) (h1 : lim a 1 = 0) (h0 : lim a 0 = 0) : a = 0 := by
  rw [lim3] at h3; rw [lim2] at h2; rw [lim1] at h1; rw [lim0] at h0
  unfold top at ha; omega

theorem len64_any (x : Nat) (w : World) (h : (x : Int) ≤ 18446744073709551615) :
    Calls Tryd.prog 111 #[.int .u64 (x : Int)] w fun e w' => e = .returned (.int .i64 (blen x : Int)) ∧ w' = w := by
  have := Tryd.bits_Len64 (x : Int) w (by omega) h
  rw [Int.toNat_natCast, lib_blen x (by omega)] at this
  exact this

/-- Which limbs are known to be 0, k limbs looked at from above. -/
def noneAbove (a k : Nat) : Prop := (1 ≤ k → lim a 3 = 0) ∧ (2 ≤ k → lim a 2 = 0) ∧ (3 ≤ k → lim a 1 = 0) ∧ (4 ≤ k → lim a 0 = 0)
theorem len_at (a k : Nat) (ha : a < top) (hk : k < 4) (h : noneAbove a k) (hx : lim a (3 - k) ≠ 0) : blen a = 64 * (3 - k) + blen (lim a (3 - k)) := by
  obtain ⟨h3, h2, h1, h0⟩ := h
  refine blen_limb a (3 - k) hx ?_
  have hk' : k = 0 ∨ k = 1 ∨ k = 2 ∨ k = 3 := by omega
  rcases hk' with rfl | rfl | rfl | rfl
  · show a < 2 ^ 256
    rw [← top_eq]; exact ha
  · exact under3 a ha (h3 (by omega))
  · exact under2 a ha (h3 (by omega)) (h2 (by omega))
  · exact under1 a ha (h3 (by omega)) (h2 (by omega)) (h1 (by omega))
theorem blen_le (n : Nat) (h : (n : Int) ≤ 18446744073709551615) : blen n ≤ 64 := by
  rcases Nat.eq_zero_or_pos n with rfl | hn
  · decide
  · have := blen_low n (by omega)
    rcases Nat.lt_or_ge 64 (blen n) with h2 | h2
    · have h3 : 2 ^ 64 ≤ 2 ^ (blen n - 1) := Nat.pow_le_pow_right (by decide) (by omega)
      have h4 : (2 : Nat) ^ 64 = 18446744073709551616 := by decide
      omega
    · exact h2

set_option maxHeartbeats 1000000 in
theorem len_any (a : Nat) (w : World) (ha : a < top) :
    Calls Tryd.prog 104 #[.agg #[.int .u64 (lim a 0 : Int), .int .u64 (lim a 1 : Int), .int .u64 (lim a 2 : Int), .int .u64 (lim a 3 : Int)]] w fun e w' => e = .returned (.int .i64 (blen a : Int)) ∧ Nx w w' := by
  have HA := Lib.hid ha
  clear ha
  go_enter Tryd.func104, Tryd.ntmps104
  go_wp2
  go_loopw [3] (fun i wr => ∃ k : Nat, k ≤ 4 ∧ i = .int .i64 (3 - (k : Int)) ∧ Hid (noneAbove a k) ∧ wr = w.alloc (.cells #[.int .u64 (lim a 0 : Int), .int .u64 (lim a 1 : Int), .int .u64 (lim a 2 : Int), .int .u64 (lim a 3 : Int)] 81)) (fun i _ => (intOf i + 1).toNat)
  case atStart => exact ⟨0, by omega, rfl, ⟨by omega, by omega, by omega, by omega⟩, rfl⟩
  case round =>
    obtain ⟨k, hk, rfl, HN, rfl⟩ := hrel
    have hk' : k = 0 ∨ k = 1 ∨ k = 2 ∨ k = 3 ∨ k = 4 := by omega
    clear hk
    rcases hk' with rfl | rfl | rfl | rfl | rfl
    · by_cases hx : lim a (3 - 0) = 0
      · have HX := Lib.hid hx
        have hx1 : ((lim a (3 - 0) : Int) != 0) = false := by rw [hx]; rfl
        simp only [Nat.reduceSub] at hx1
        clear hx
        go_wp2
        go_roundw
        case rel =>
          obtain ⟨h3, h2, h1, h0⟩ := HN.out
          have hx := HX.out
          exact ⟨1, by omega, rfl, ⟨fun _ => by first | exact hx | exact h3 (by omega), fun _ => by first | exact hx | exact h2 (by omega) | omega, fun _ => by first | exact hx | exact h1 (by omega) | omega, fun _ => by first | exact hx | exact h0 (by omega) | omega⟩, by first | rfl | trivial⟩
        case measure => simp [intOf]
      · have hx1 : ((lim a (3 - 0) : Int) != 0) = true := by rw [bne_iff_ne]; omega
        simp only [Nat.reduceSub] at hx1
        have HL := Lib.hid (len_at a 0 HA.out (by omega) HN.out hx)
        have hb := blen_le (lim a (3 - 0)) (lim_le a _)
        have HM := Lib.hid (lim_le a (3 - 0))
        simp only [Nat.reduceSub] at hb
        clear hx
        go_wp2_with fail
        refine (len64_any _ _ HM.out).mono ?_
        rintro e w' ⟨rfl, rfl⟩
        go_wp2
        go_ret
        refine ⟨?_, by repeat (first | exact Nx.refl _ | apply Nx.drewN | apply Nx.alloc)⟩
        rw [HL.out]
        simp only [Nat.reduceSub]
        first | go_num | (simp only [Nat.mul_zero, Nat.zero_add]; rfl)
    · by_cases hx : lim a (3 - 1) = 0
      · have HX := Lib.hid hx
        have hx1 : ((lim a (3 - 1) : Int) != 0) = false := by rw [hx]; rfl
        simp only [Nat.reduceSub] at hx1
        clear hx
        go_wp2
        go_roundw
        case rel =>
          obtain ⟨h3, h2, h1, h0⟩ := HN.out
          have hx := HX.out
          exact ⟨2, by omega, rfl, ⟨fun _ => by first | exact hx | exact h3 (by omega), fun _ => by first | exact hx | exact h2 (by omega) | omega, fun _ => by first | exact hx | exact h1 (by omega) | omega, fun _ => by first | exact hx | exact h0 (by omega) | omega⟩, by first | rfl | trivial⟩
        case measure => simp [intOf]
      · have hx1 : ((lim a (3 - 1) : Int) != 0) = true := by rw [bne_iff_ne]; omega
        simp only [Nat.reduceSub] at hx1
        have HL := Lib.hid (len_at a 1 HA.out (by omega) HN.out hx)
        have hb := blen_le (lim a (3 - 1)) (lim_le a _)
        have HM := Lib.hid (lim_le a (3 - 1))
        simp only [Nat.reduceSub] at hb
        clear hx
        go_wp2_with fail
        refine (len64_any _ _ HM.out).mono ?_
        rintro e w' ⟨rfl, rfl⟩
        go_wp2
        go_ret
        refine ⟨?_, by repeat (first | exact Nx.refl _ | apply Nx.drewN | apply Nx.alloc)⟩
        rw [HL.out]
        simp only [Nat.reduceSub]
        first | go_num | (simp only [Nat.mul_zero, Nat.zero_add]; rfl)
    · by_cases hx : lim a (3 - 2) = 0
      · have HX := Lib.hid hx
        have hx1 : ((lim a (3 - 2) : Int) != 0) = false := by rw [hx]; rfl
        simp only [Nat.reduceSub] at hx1
        clear hx
        go_wp2
        go_roundw
        case rel =>
          obtain ⟨h3, h2, h1, h0⟩ := HN.out
          have hx := HX.out
          exact ⟨3, by omega, rfl, ⟨fun _ => by first | exact hx | exact h3 (by omega), fun _ => by first | exact hx | exact h2 (by omega) | omega, fun _ => by first | exact hx | exact h1 (by omega) | omega, fun _ => by first | exact hx | exact h0 (by omega) | omega⟩, by first | rfl | trivial⟩
        case measure => simp [intOf]
      · have hx1 : ((lim a (3 - 2) : Int) != 0) = true := by rw [bne_iff_ne]; omega
        simp only [Nat.reduceSub] at hx1
        have HL := Lib.hid (len_at a 2 HA.out (by omega) HN.out hx)
        have hb := blen_le (lim a (3 - 2)) (lim_le a _)
        have HM := Lib.hid (lim_le a (3 - 2))
        simp only [Nat.reduceSub] at hb
        clear hx
        go_wp2_with fail
        refine (len64_any _ _ HM.out).mono ?_
        rintro e w' ⟨rfl, rfl⟩
        go_wp2
        go_ret
        refine ⟨?_, by repeat (first | exact Nx.refl _ | apply Nx.drewN | apply Nx.alloc)⟩
        rw [HL.out]
        simp only [Nat.reduceSub]
        first | go_num | (simp only [Nat.mul_zero, Nat.zero_add]; rfl)
    · by_cases hx : lim a (3 - 3) = 0
      · have HX := Lib.hid hx
        have hx1 : ((lim a (3 - 3) : Int) != 0) = false := by rw [hx]; rfl
        simp only [Nat.reduceSub] at hx1
        clear hx
        go_wp2
        go_roundw
        case rel =>
          obtain ⟨h3, h2, h1, h0⟩ := HN.out
          have hx := HX.out
          exact ⟨4, by omega, rfl, ⟨fun _ => by first | exact hx | exact h3 (by omega), fun _ => by first | exact hx | exact h2 (by omega) | omega, fun _ => by first | exact hx | exact h1 (by omega) | omega, fun _ => by first | exact hx | exact h0 (by omega) | omega⟩, by first | rfl | trivial⟩
        case measure => simp [intOf]
      · have hx1 : ((lim a (3 - 3) : Int) != 0) = true := by rw [bne_iff_ne]; omega
        simp only [Nat.reduceSub] at hx1
        have HL := Lib.hid (len_at a 3 HA.out (by omega) HN.out hx)
        have hb := blen_le (lim a (3 - 3)) (lim_le a _)
        have HM := Lib.hid (lim_le a (3 - 3))
        simp only [Nat.reduceSub] at hb
        clear hx
        go_wp2_with fail
        refine (len64_any _ _ HM.out).mono ?_
        rintro e w' ⟨rfl, rfl⟩
        go_wp2
        go_ret
        refine ⟨?_, by repeat (first | exact Nx.refl _ | apply Nx.drewN | apply Nx.alloc)⟩
        rw [HL.out]
        simp only [Nat.reduceSub]
        first | go_num | (simp only [Nat.mul_zero, Nat.zero_add]; rfl)
    · have HE : Hid (blen a = 0) := show _ = _ by
        obtain ⟨h3, h2, h1, h0⟩ := HN.out
        rw [under0 a HA.out (h3 (by omega)) (h2 (by omega)) (h1 (by omega)) (h0 (by omega))]; rfl
      go_wp2
      go_ret
      exact ⟨by rw [HE.out]; rfl, by repeat (first | exact Nx.refl _ | apply Nx.drewN | apply Nx.alloc)⟩
end Go.Proofs.YtjbeemoobmagnaaDoor
end

section
namespace Go.Proofs.YtjbeemoobmagnaaDoor
open Go.RowKit
set_option linter.unusedVariables false
set_option linter.unusedSimpArgs false

def overQ (a b : Nat) : Nat := if b = 0 then 0 else a / b
def overR (a b : Nat) : Nat := if b = 0 then 0 else a % b
def overE (b : Nat) : Int := if b = 0 then 2 else 0

/-- What holds with n steps to go: c is left, t is how often b went in. -/
def Going (a b n c t : Nat) : Prop := c < b * 2 ^ n ∧ t * b + c = a ∧ t % 2 ^ n = 0 ∧ t < top ∧ c ≤ a ∧ (n = 0 ∨ n + blen b ≤ blen a + 1)
theorem Going.start (a b : Nat) (hb : b ≠ 0) (h : blen b ≤ blen a) : Going a b (blen a - blen b + 1) a 0 := by
  refine ⟨?_, by omega, Nat.zero_mod _, by decide, Nat.le_refl _, .inr (by omega)⟩
  have h1 := blen_spec a
  have h2 := blen_low b hb
  have hb1 : 1 ≤ blen b := by unfold blen; rw [if_neg hb]; omega
  have : 2 ^ blen a = 2 ^ (blen b - 1) * 2 ^ (blen a - blen b + 1) := by rw [← Nat.pow_add]; congr 1; omega
  calc a < 2 ^ blen a := h1
    _ = 2 ^ (blen b - 1) * 2 ^ (blen a - blen b + 1) := this
    _ ≤ b * 2 ^ (blen a - blen b + 1) := Nat.mul_le_mul_right _ h2
theorem Going.none (a b : Nat) (hb : b ≠ 0) (h : blen a < blen b) : a < b := by
  have h1 := blen_spec a
  have h2 := blen_low b hb
  have : 2 ^ blen a ≤ 2 ^ (blen b - 1) := Nat.pow_le_pow_right (by decide) (by omega)
  omega
theorem Going.small {a b n c t : Nat} (h : Going a b (n + 1) c t) (hb : b ≠ 0) (ha : a < top) : b * 2 ^ n < top := by
  obtain ⟨_, _, _, _, _, h6⟩ := h
  have h1 := blen_spec b
  have ha2 : blen a ≤ 256 := by
    rcases Nat.lt_or_ge 256 (blen a) with hl | hl
    · have ha0 : a ≠ 0 := by rintro rfl; rw [blen_zero] at hl; omega
      have := blen_low a ha0
      have h3 : 2 ^ 256 ≤ 2 ^ (blen a - 1) := Nat.pow_le_pow_right (by decide) (by omega)
      rw [← top_eq] at h3
      omega
    · exact hl
  have : b * 2 ^ n < 2 ^ blen b * 2 ^ n := Nat.mul_lt_mul_of_pos_right h1 (Nat.pow_pos (by omega))
  rw [← Nat.pow_add] at this
  have h3 : 2 ^ (blen b + n) ≤ 2 ^ 256 := Nat.pow_le_pow_right (by decide) (by omega)
  rw [top_eq]
  omega
theorem Going.less {a b n c t : Nat} (h : Going a b (n + 1) c t) (hl : c < b * 2 ^ n) : Going a b n c t := by
  obtain ⟨_, h2, h3, h4, h5, h6⟩ := h
  refine ⟨hl, h2, ?_, h4, h5, by omega⟩
  rw [Nat.pow_succ] at h3
  have := Nat.mod_mul_right_mod t (2 ^ n) 2
  rw [h3, Nat.zero_mod] at this
  exact this.symm
theorem Going.more {a b n c t : Nat} (h : Going a b (n + 1) c t) (hb : b ≠ 0) (ha : a < top) (hl : b * 2 ^ n ≤ c) : Going a b n (c - b * 2 ^ n) (t + 2 ^ n) := by
  obtain ⟨h1, h2, h3, h4, h5, h6⟩ := h
  have e : (t + 2 ^ n) * b + (c - b * 2 ^ n) = a := by
    rw [Nat.add_mul, Nat.mul_comm (2 ^ n) b]; omega
  refine ⟨?_, e, ?_, ?_, by omega, by omega⟩
  · rw [Nat.pow_succ, ← Nat.mul_assoc] at h1
    omega
  · rw [Nat.pow_succ] at h3
    have := Nat.mod_mul_right_mod t (2 ^ n) 2
    rw [h3, Nat.zero_mod] at this
    rw [Nat.add_mod_right]; exact this.symm
  · have : (t + 2 ^ n) * 1 ≤ (t + 2 ^ n) * b := Nat.mul_le_mul_left _ (by omega)
    omega
theorem Going.done {a b c t : Nat} (h : Going a b 0 c t) : t = a / b ∧ c = a % b := by
  obtain ⟨h1, h2, _⟩ := h
  rw [Nat.pow_zero, Nat.mul_one] at h1
  have h3 : b ≠ 0 := by omega
  rw [← h2]
  constructor
  · rw [Nat.add_comm, Nat.add_mul_div_right _ _ (by omega), Nat.div_eq_of_lt h1, Nat.zero_add]
  · rw [Nat.add_comm, Nat.add_mul_mod_self_right, Nat.mod_eq_of_lt h1]
theorem Going.n_lt {a b n c t : Nat} (h : Going a b (n + 1) c t) (hb : b ≠ 0) (ha : a < top) : n < 256 := by
  have := h.small hb ha
  rcases Nat.lt_or_ge n 256 with hl | hl
  · exact hl
  · have h3 : 2 ^ 256 ≤ 2 ^ n := Nat.pow_le_pow_right (by decide) hl
    rw [← top_eq] at h3
    have : 1 * 2 ^ n ≤ b * 2 ^ n := Nat.mul_le_mul_right _ (by omega)
    omega

theorem low_bit (u p : Nat) (hp : p < 64) (h : u % 2 ^ (p + 1) = 0) : u % 18446744073709551616 + 2 ^ p < 18446744073709551616 ∧ (u + 2 ^ p) / 18446744073709551616 = u / 18446744073709551616 := by
  have hs : (18446744073709551616 : Nat) = 2 ^ (p + 1) * 2 ^ (63 - p) := by rw [← Nat.pow_add, show p + 1 + (63 - p) = 64 by omega]
  have hpp : 0 < 2 ^ p := Nat.pow_pos (by omega)
  have hm : u % 18446744073709551616 % 2 ^ (p + 1) = 0 := by rw [hs, Nat.mod_mul_right_mod, h]
  have hl : u % 18446744073709551616 < 18446744073709551616 := Nat.mod_lt _ (by decide)
  have hd := Nat.mod_add_div u 18446744073709551616
  generalize u % 18446744073709551616 = v at *
  have hv := Nat.mod_add_div v (2 ^ (p + 1))
  rw [hm, Nat.zero_add] at hv
  have h1 : v / 2 ^ (p + 1) < 2 ^ (63 - p) := by
    rw [Nat.div_lt_iff_lt_mul (Nat.pow_pos (by omega)), Nat.mul_comm, ← hs]; exact hl
  have h2 : 2 ^ (p + 1) * (v / 2 ^ (p + 1) + 1) ≤ 2 ^ (p + 1) * 2 ^ (63 - p) := Nat.mul_le_mul_left _ h1
  rw [← hs, Nat.mul_add, hv, Nat.mul_one, Nat.pow_succ] at h2
  have h3 : v + 2 ^ p < 18446744073709551616 := by omega
  refine ⟨h3, ?_⟩
  rw [← hd, show v + 18446744073709551616 * (u / 18446744073709551616) + 2 ^ p = (v + 2 ^ p) + 18446744073709551616 * (u / 18446744073709551616) by omega, Nat.add_mul_div_left _ _ (by decide), Nat.add_mul_div_left _ _ (by decide), Nat.div_eq_of_lt h3, Nat.div_eq_of_lt hl]
/-- A bit that is set: the limb it lies in; the others stay. -/
theorem bit_lim (t n q p : Nat) (hn : n = 64 * q + p) (hp : p < 64) (h : t % 2 ^ (n + 1) = 0) (i : Nat) :
    lim (t + 2 ^ n) i = if i = q then lim t q + 2 ^ p else lim t i := by
  subst hn
  have e1 : t = 2 ^ (64 * q + p + 1) * (t / 2 ^ (64 * q + p + 1)) := by have := Nat.mod_add_div t (2 ^ (64 * q + p + 1)); omega
  generalize t / 2 ^ (64 * q + p + 1) = d at *
  have e2 : t = 2 ^ (p + 1) * d * 2 ^ (64 * q) := by
    rw [e1, show 64 * q + p + 1 = (p + 1) + 64 * q by omega, Nat.pow_add, Nat.mul_right_comm]
  have hu : 2 ^ (p + 1) * d % 2 ^ (p + 1) = 0 := Nat.mul_mod_right _ _
  generalize 2 ^ (p + 1) * d = u at *
  have e3 : t + 2 ^ (64 * q + p) = (u + 2 ^ p) * 2 ^ (64 * q) := by
    rw [e2, Nat.add_mul, ← Nat.pow_add, Nat.add_comm p]
  rw [e3, e2]
  obtain ⟨b1, b2⟩ := low_bit u p hp hu
  by_cases hi : i < q
  · rw [if_neg (by omega), lim_under _ _ _ hi, lim_under _ _ _ hi]
  · obtain ⟨j, rfl⟩ : ∃ j, i = q + j := ⟨i - q, by omega⟩
    rw [lim_up, lim_up]
    have hz := lim_up u q 0
    rw [Nat.add_zero] at hz
    rw [hz]
    by_cases hj : j = 0
    · subst hj
      rw [if_pos (by omega), lim0, lim0, Nat.add_mod]
      have : 2 ^ p % 18446744073709551616 = 2 ^ p := Nat.mod_eq_of_lt (by omega)
      rw [this, Nat.mod_eq_of_lt b1]
    · rw [if_neg (by omega)]
      obtain ⟨k, rfl⟩ : ∃ k, j = k + 1 := ⟨j - 1, by omega⟩
      unfold lim
      have e : (2 : Nat) ^ (64 * (k + 1)) = 18446744073709551616 * 2 ^ (64 * k) := by rw [show 64 * (k + 1) = 64 + 64 * k by omega, Nat.pow_add]
      rw [e, ← Nat.div_div_eq_div_mul, b2, Nat.div_div_eq_div_mul]
theorem bit_or (t n q p : Nat) (hn : n = 64 * q + p) (hp : p < 64) (h : t % 2 ^ (n + 1) = 0) :
    bits .or .u64 (lim t q : Int) (IntKind.u64.wrap (1 * 2 ^ p)) = (lim (t + 2 ^ n) q : Int) := by
  rw [bit_lim t n q p hn hp h q, if_pos rfl]
  have hlt : 2 ^ p < 18446744073709551616 := by
    have : (2 : Nat) ^ p < 2 ^ 64 := Nat.pow_lt_pow_right (by decide) hp
    simpa using this
  have e : IntKind.u64.wrap (1 * 2 ^ p) = ((2 ^ p : Nat) : Int) := by
    have := wrap_pow 1 p
    rw [show ((1 : Nat) : Int) = 1 from rfl] at this
    rw [this, Nat.one_mul, Nat.mod_eq_of_lt hlt]
  rw [e, u64_or_nat _ _ (lim_lt t q) hlt]
  congr 1
  rw [nat_join (p + 1) _ _ ?_ (Nat.pow_lt_pow_right (by decide) (by omega))]
  -- the limb is a multiple of 2 ^ (p + 1)
  subst hn
  have e1 : t = 2 ^ (64 * q + p + 1) * (t / 2 ^ (64 * q + p + 1)) := by have := Nat.mod_add_div t (2 ^ (64 * q + p + 1)); omega
  generalize t / 2 ^ (64 * q + p + 1) = d at *
  have e2 : t = 2 ^ (p + 1) * d * 2 ^ (64 * q) := by
    rw [e1, show 64 * q + p + 1 = (p + 1) + 64 * q by omega, Nat.pow_add, Nat.mul_right_comm]
  have hz := lim_up (2 ^ (p + 1) * d) q 0
  simp only [Nat.add_zero] at hz
  rw [e2, hz, lim0, show (18446744073709551616 : Nat) = 2 ^ (p + 1) * 2 ^ (63 - p) by rw [← Nat.pow_add, show p + 1 + (63 - p) = 64 by omega], Nat.mul_mod_mul_left, Nat.mul_mod_right]
end Go.Proofs.YtjbeemoobmagnaaDoor
end

section
namespace Go.Proofs.YtjbeemoobmagnaaDoor
open Go.RowKit
set_option linter.unusedVariables false
set_option linter.unusedSimpArgs false

/-- a times 256 to the power of n, without what is above and below. -/
def shN (a : Nat) (n : Int) : Nat := if n < 0 then a / 2 ^ (8 * (-n).toNat) else a * 2 ^ (8 * n.toNat) % top
/-- The target that bits tell, whether they may be or not. -/
def tN (b : Nat) : Nat := shN (b % 8388608) ((b / 16777216 : Nat) - 3 : Int)
/-- How many bytes. -/
def sizeN (t : Nat) : Nat := (blen t + 7) / 8
def manN (t : Nat) : Nat := lim (shN t (3 - (sizeN t : Int))) 0 % 4294967296
/-- The bits of a target. -/
def bN (t : Nat) : Nat := if 8388607 < manN t then (sizeN t + 1) * 16777216 + manN t / 256 else sizeN t * 16777216 + manN t
def ofE (b : Nat) : Int := if tN b = 0 ∨ bN (tN b) ≠ b then 5 else 0
def ofT (b : Nat) : Nat := if tN b = 0 ∨ bN (tN b) ≠ b then 0 else tN b

theorem blen_le256 (t : Nat) (h : t < top) : blen t ≤ 256 := by
  unfold blen
  split
  · omega
  · rename_i h0
    have : t.log2 < 256 := (Nat.log2_lt h0).2 (top_eq ▸ h)
    omega
theorem sizeN_le (t : Nat) (h : t < top) : sizeN t ≤ 32 := by have := blen_le256 t h; unfold sizeN; omega
theorem shN_lt (a : Nat) (n : Int) (h : a < top) : shN a n < top := by
  unfold shN
  split
  · exact Nat.lt_of_le_of_lt (Nat.div_le_self _ _) h
  · exact Nat.mod_lt _ (by decide)
theorem tN_lt (b : Nat) : tN b < top := shN_lt _ _ (Nat.lt_of_lt_of_le (Nat.mod_lt _ (by decide)) (by decide))
/-- The three highest bytes. -/
theorem shN_small (t : Nat) (h : t < top) : shN t (3 - (sizeN t : Int)) < 16777216 := by
  have hs := sizeN_le t h
  have hb := blen_spec t
  have h8 : blen t ≤ 8 * sizeN t := by unfold sizeN; omega
  have ht : t < 2 ^ (8 * sizeN t) := Nat.lt_of_lt_of_le hb (Nat.pow_le_pow_right (by decide) h8)
  unfold shN
  generalize sizeN t = s at *
  by_cases hn : (3 - (s : Int)) < 0
  · rw [if_pos hn, Nat.div_lt_iff_lt_mul (Nat.pow_pos (by decide)), show (16777216 : Nat) = 2 ^ 24 by decide, ← Nat.pow_add]
    rw [show 24 + 8 * (-(3 - (s : Int))).toNat = 8 * s by omega]
    exact ht
  · rw [if_neg hn]
    refine Nat.lt_of_le_of_lt (Nat.mod_le _ _) ?_
    have : t * 2 ^ (8 * (3 - (s : Int)).toNat) < 2 ^ (8 * s) * 2 ^ (8 * (3 - (s : Int)).toNat) := Nat.mul_lt_mul_of_pos_right ht (Nat.pow_pos (by decide))
    rw [← Nat.pow_add, show 8 * s + 8 * (3 - (s : Int)).toNat = 24 by omega] at this
    exact this
theorem manN_eq (t : Nat) (h : t < top) : manN t = shN t (3 - (sizeN t : Int)) := by
  have := shN_small t h
  unfold manN
  rw [lim0]
  omega
theorem manN_lt (t : Nat) (h : t < top) : manN t < 16777216 := by rw [manN_eq t h]; exact shN_small t h
theorem bN_lt (t : Nat) (h : t < top) : bN t < 4294967296 := by
  have h1 := manN_lt t h
  have h2 := sizeN_le t h
  unfold bN
  split <;> omega
theorem ofT_lt (b : Nat) : ofT b < top := by
  unfold ofT
  split
  · decide
  · exact tN_lt b
end Go.Proofs.YtjbeemoobmagnaaDoor
end

section
namespace Go.Proofs.YtjbeemoobmagnaaDoor
open Go.RowKit
set_option linter.unusedVariables false
set_option linter.unusedSimpArgs false

theorem shN_down (t j : Nat) (ht : t < top) : shN t (-(j : Int)) = t / 2 ^ (8 * j) := by
  unfold shN
  rcases Nat.eq_zero_or_pos j with rfl | hj
  · rw [if_neg (by omega)]
    simp
    exact Nat.mod_eq_of_lt ht
  · rw [if_pos (by omega), show (- -(j : Int)).toNat = j by omega]
theorem shN_up (a j : Nat) : shN a (j : Int) = a * 2 ^ (8 * j) % top := by
  unfold shN
  rw [if_neg (by omega), Int.toNat_natCast]
theorem sizeN_of {t s : Nat} (hs : 1 ≤ s) (h1 : 2 ^ (8 * (s - 1)) ≤ t) (h2 : t < 2 ^ (8 * s)) : sizeN t = s := by
  have ht : t ≠ 0 := by have := Nat.pow_pos (n := 8 * (s - 1)) (show 0 < 2 by decide); omega
  have b1 := Nat.lt_of_le_of_lt h1 (blen_spec t)
  have b2 := Nat.lt_of_le_of_lt (blen_low t ht) h2
  rw [Nat.pow_lt_pow_iff_right (by decide)] at b1 b2
  unfold sizeN
  omega
theorem sizeN_low {t : Nat} (ht : t ≠ 0) : 1 ≤ sizeN t ∧ 2 ^ (8 * (sizeN t - 1)) ≤ t ∧ t < 2 ^ (8 * sizeN t) := by
  have b1 := blen_spec t
  have b2 := blen_low t ht
  have hb : 1 ≤ blen t := by
    refine Nat.one_le_iff_ne_zero.2 fun e => ?_
    rw [e] at b1
    simp at b1
    exact ht b1
  have h1 : 8 * (sizeN t - 1) ≤ blen t - 1 := by unfold sizeN; omega
  have h2 : blen t ≤ 8 * sizeN t := by unfold sizeN; omega
  exact ⟨by unfold sizeN; omega, Nat.le_trans (Nat.pow_le_pow_right (by decide) h1) b2, Nat.lt_of_lt_of_le b1 (Nat.pow_le_pow_right (by decide) h2)⟩
/-- A number of k bytes, moved up by j bytes. -/
theorem sizeN_moved {m k j : Nat} (hk : 1 ≤ k) (h1 : 2 ^ (8 * (k - 1)) ≤ m) (h2 : m < 2 ^ (8 * k)) : sizeN (m * 2 ^ (8 * j)) = k + j := by
  refine sizeN_of (by omega) ?_ ?_
  · rw [show 8 * (k + j - 1) = 8 * (k - 1) + 8 * j by omega, Nat.pow_add]
    exact Nat.mul_le_mul_right _ h1
  · rw [show 8 * (k + j) = 8 * k + 8 * j by omega, Nat.pow_add]
    exact Nat.mul_lt_mul_of_pos_right h2 (Nat.pow_pos (by decide))
/-- Bits, taken apart. -/
theorem bits_parts {e m : Nat} (h : m < 8388608) : (e * 16777216 + m) % 8388608 = m ∧ (e * 16777216 + m) / 16777216 = e := by omega
theorem bN_is (t : Nat) (ht : t < top) : bN t = if 8388607 < shN t (3 - (sizeN t : Int)) then (sizeN t + 1) * 16777216 + shN t (3 - (sizeN t : Int)) / 256 else sizeN t * 16777216 + shN t (3 - (sizeN t : Int)) := by
  unfold bN
  rw [manN_eq t ht]
/-- A target of j bytes above three: m is its three highest ones. -/
theorem bN_high (m j : Nat) (h1 : 65536 ≤ m) (h2 : m < 16777216) (ht : m * 2 ^ (8 * j) < top) : bN (m * 2 ^ (8 * j)) = if 8388607 < m then (j + 4) * 16777216 + m / 256 else (j + 3) * 16777216 + m := by
  have hs : sizeN (m * 2 ^ (8 * j)) = 3 + j := sizeN_moved (by decide) (by simpa using h1) (by simpa using h2)
  have hm : shN (m * 2 ^ (8 * j)) (3 - ((3 + j : Nat) : Int)) = m := by
    rw [show (3 : Int) - ((3 + j : Nat) : Int) = -(j : Int) by omega, shN_down _ _ ht, Nat.mul_div_cancel _ (Nat.pow_pos (by decide))]
  rw [bN_is _ ht, hs, hm, show 3 + j + 1 = j + 4 by omega, Nat.add_comm 3 j]
/-- Its bits, and the target that they tell. -/
theorem back_high (t j : Nat) (h1 : 2 ^ (8 * (j + 2)) ≤ t) (h2 : t < 2 ^ (8 * (j + 3))) (ht : t < top) : tN (bN t) ≤ t ∧ tN (bN t) ≠ 0 ∧ bN (tN (bN t)) = bN t := by
  have hs : sizeN t = j + 3 := sizeN_of (by omega) (by rw [show j + 3 - 1 = j + 2 by omega]; exact h1) h2
  have hp : 0 < 2 ^ (8 * j) := Nat.pow_pos (by decide)
  have hm : shN t (3 - ((j + 3 : Nat) : Int)) = t / 2 ^ (8 * j) := by
    rw [show (3 : Int) - ((j + 3 : Nat) : Int) = -(j : Int) by omega, shN_down _ _ ht]
  have hle : t / 2 ^ (8 * j) * 2 ^ (8 * j) ≤ t := Nat.div_mul_le_self _ _
  have m1 : 65536 ≤ t / 2 ^ (8 * j) := by
    rw [Nat.le_div_iff_mul_le hp, show (65536 : Nat) = 2 ^ 16 by decide, ← Nat.pow_add, show 16 + 8 * j = 8 * (j + 2) by omega]
    exact h1
  have m2 : t / 2 ^ (8 * j) < 16777216 := by
    rw [Nat.div_lt_iff_lt_mul hp, show (16777216 : Nat) = 2 ^ 24 by decide, ← Nat.pow_add, show 24 + 8 * j = 8 * (j + 3) by omega]
    exact h2
  rw [bN_is t ht, hs, hm]
  generalize t / 2 ^ (8 * j) = m at *
  by_cases hc : 8388607 < m
  · rw [if_pos hc]
    obtain ⟨p1, p2⟩ := bits_parts (e := j + 3 + 1) (m := m / 256) (by omega)
    have hj : 2 ^ (8 * (j + 1)) = 256 * 2 ^ (8 * j) := by rw [show 8 * (j + 1) = 8 + 8 * j by omega, Nat.pow_add]
    have hle2 : m / 256 * 256 * 2 ^ (8 * j) ≤ t := Nat.le_trans (Nat.mul_le_mul_right _ (Nat.div_mul_le_self m 256)) hle
    have ht2 : m / 256 * 256 * 2 ^ (8 * j) < top := Nat.lt_of_le_of_lt hle2 ht
    have e : tN ((j + 3 + 1) * 16777216 + m / 256) = m / 256 * 256 * 2 ^ (8 * j) := by
      unfold tN
      rw [p1, p2, show (((j + 3 + 1 : Nat) : Int) - 3) = ((j + 1 : Nat) : Int) by omega, shN_up, hj, ← Nat.mul_assoc, Nat.mod_eq_of_lt ht2]
    rw [e]
    refine ⟨hle2, ?_, ?_⟩
    · have : 0 < m / 256 * 256 * 2 ^ (8 * j) := Nat.mul_pos (by omega) hp
      omega
    · rw [bN_high _ _ (by omega) (by omega) ht2, if_pos (by omega), Nat.mul_div_cancel _ (by decide)]
  · rw [if_neg hc]
    obtain ⟨p1, p2⟩ := bits_parts (e := j + 3) (m := m) (by omega)
    have ht2 : m * 2 ^ (8 * j) < top := Nat.lt_of_le_of_lt hle ht
    have e : tN ((j + 3) * 16777216 + m) = m * 2 ^ (8 * j) := by
      unfold tN
      rw [p1, p2, show (((j + 3 : Nat) : Int) - 3) = (j : Int) by omega, shN_up, Nat.mod_eq_of_lt ht2]
    rw [e]
    refine ⟨hle, ?_, ?_⟩
    · have : 0 < m * 2 ^ (8 * j) := Nat.mul_pos (by omega) hp
      omega
    · rw [bN_high _ _ m1 m2 ht2, if_neg hc]
/-- A target of two bytes, of one. -/
theorem back_two (t : Nat) (h1 : 256 ≤ t) (h2 : t < 65536) : tN (bN t) = t := by
  have ht : t < top := Nat.lt_of_lt_of_le h2 (by decide)
  have hs : sizeN t = 2 := sizeN_of (by decide) (by simpa using h1) (by simpa using h2)
  have hm : shN t (3 - ((2 : Nat) : Int)) = t * 256 := by
    rw [show (3 : Int) - ((2 : Nat) : Int) = ((1 : Nat) : Int) by omega, shN_up]
    exact Nat.mod_eq_of_lt (Nat.lt_of_lt_of_le (show t * 2 ^ (8 * 1) < 16777216 by omega) (by decide))
  rw [bN_is t ht, hs, hm]
  by_cases hc : 8388607 < t * 256
  · rw [if_pos hc, Nat.mul_div_cancel _ (by decide)]
    obtain ⟨p1, p2⟩ := bits_parts (e := 2 + 1) (m := t) (by omega)
    unfold tN
    rw [p1, p2, show (((2 + 1 : Nat) : Int) - 3) = ((0 : Nat) : Int) by omega, shN_up]
    simp
    exact Nat.mod_eq_of_lt ht
  · rw [if_neg hc]
    obtain ⟨p1, p2⟩ := bits_parts (e := 2) (m := t * 256) (by omega)
    unfold tN
    rw [p1, p2, show (((2 : Nat) : Int) - 3) = -((1 : Nat) : Int) by omega, shN_down _ _ (Nat.lt_of_lt_of_le (show t * 256 < 16777216 by omega) (by decide))]
    exact Nat.mul_div_cancel (n := 256) t (by decide)
theorem back_one (t : Nat) (h1 : 1 ≤ t) (h2 : t < 256) : tN (bN t) = t := by
  have ht : t < top := Nat.lt_of_lt_of_le h2 (by decide)
  have hs : sizeN t = 1 := sizeN_of (by decide) (by simpa using h1) (by simpa using h2)
  have hm : shN t (3 - ((1 : Nat) : Int)) = t * 65536 := by
    rw [show (3 : Int) - ((1 : Nat) : Int) = ((2 : Nat) : Int) by omega, shN_up]
    exact Nat.mod_eq_of_lt (Nat.lt_of_lt_of_le (show t * 2 ^ (8 * 2) < 16777216 by omega) (by decide))
  rw [bN_is t ht, hs, hm]
  by_cases hc : 8388607 < t * 65536
  · rw [if_pos hc]
    obtain ⟨p1, p2⟩ := bits_parts (e := 1 + 1) (m := t * 65536 / 256) (by omega)
    unfold tN
    rw [p1, p2, show (((1 + 1 : Nat) : Int) - 3) = -((1 : Nat) : Int) by omega, shN_down _ _ (Nat.lt_of_lt_of_le (show t * 65536 / 256 < 16777216 by omega) (by decide))]
    omega
  · rw [if_neg hc]
    obtain ⟨p1, p2⟩ := bits_parts (e := 1) (m := t * 65536) (by omega)
    unfold tN
    rw [p1, p2, show (((1 : Nat) : Int) - 3) = -((2 : Nat) : Int) by omega, shN_down _ _ (Nat.lt_of_lt_of_le (show t * 65536 < 16777216 by omega) (by decide))]
    exact Nat.mul_div_cancel (n := 65536) t (by decide)
/-- The bits of any target but 0 may be, and tell no more than it. -/
theorem back_any (t : Nat) (h0 : t ≠ 0) (ht : t < top) : tN (bN t) ≤ t ∧ tN (bN t) ≠ 0 ∧ bN (tN (bN t)) = bN t := by
  obtain ⟨s1, s2, s3⟩ := sizeN_low h0
  by_cases h3 : 3 ≤ sizeN t
  · obtain ⟨j, hj⟩ : ∃ j, sizeN t = j + 3 := ⟨sizeN t - 3, by omega⟩
    rw [hj] at s2 s3
    exact back_high t j (by rw [show j + 3 - 1 = j + 2 by omega] at s2; exact s2) s3 ht
  · have e : tN (bN t) = t := by
      have hc : sizeN t = 1 ∨ sizeN t = 2 := by omega
      rcases hc with hc | hc
      · rw [hc] at s2 s3
        exact back_one t (by omega) (by simpa using s3)
      · rw [hc] at s2 s3
        exact back_two t (by simpa using s2) (by simpa using s3)
    rw [e]
    exact ⟨Nat.le_refl _, h0, rfl⟩
theorem ofE_bN (t : Nat) (h0 : t ≠ 0) (ht : t < top) : ofE (bN t) = 0 ∧ ofT (bN t) = tN (bN t) ∧ tN (bN t) ≤ t ∧ bN (tN (bN t)) = bN t := by
  obtain ⟨h1, h2, h3⟩ := back_any t h0 ht
  have hn : ¬ (tN (bN t) = 0 ∨ bN (tN (bN t)) ≠ bN t) := by
    rintro (h | h)
    · exact h2 h
    · exact h h3
  exact ⟨if_neg hn, if_neg hn, h1, h3⟩
theorem ofE_back (b : Nat) (h : ofE b = 0) : ofT b = tN b ∧ bN (tN b) = b := by
  unfold ofE at h
  by_cases hc : tN b = 0 ∨ bN (tN b) ≠ b
  · rw [if_pos hc] at h; cases h
  · refine ⟨if_neg hc, ?_⟩
    by_cases h2 : bN (tN b) = b
    · exact h2
    · exact absurd (.inr h2) hc
theorem bN_zero : bN 0 = 0 := by decide +kernel
end Go.Proofs.YtjbeemoobmagnaaDoor
end

section
namespace Go.Proofs.YtjbeemoobmagnaaDoor
open Go.RowKit
set_option linter.unusedVariables false
set_option linter.unusedSimpArgs false

/-- How many bytes, counted from below: k are looked at. -/
def szK (t : Nat) : Nat → Nat
  | 0 => 0
  | k + 1 => if t / 256 ^ k % 256 = 0 then szK t k else k + 1
theorem szK_spec (t k : Nat) : t % 256 ^ k < 256 ^ szK t k ∧ szK t k ≤ k ∧ (szK t k = 0 ∨ 256 ^ (szK t k - 1) ≤ t % 256 ^ k) := by
  induction k with
  | zero => simp [szK, Nat.mod_one]
  | succ k ih =>
    have hp : 0 < 256 ^ k := Nat.pow_pos (by decide)
    have e : t % 256 ^ (k + 1) = t % 256 ^ k + 256 ^ k * (t / 256 ^ k % 256) := by rw [Nat.pow_succ, Nat.mod_mul]
    have h1 := Nat.mod_lt t (show 0 < 256 ^ (k + 1) from Nat.pow_pos (by decide))
    simp only [szK]
    by_cases h : t / 256 ^ k % 256 = 0
    · rw [if_pos h, e, h, Nat.mul_zero, Nat.add_zero]
      exact ⟨ih.1, by omega, ih.2.2⟩
    · rw [if_neg h]
      refine ⟨h1, Nat.le_refl _, .inr ?_⟩
      rw [Nat.add_sub_cancel, e]
      have : 256 ^ k * 1 ≤ 256 ^ k * (t / 256 ^ k % 256) := Nat.mul_le_mul_left _ (by omega)
      omega
theorem pow256 (k : Nat) : (256 : Nat) ^ k = 2 ^ (8 * k) := by rw [Nat.pow_mul]
theorem top256 : top = 256 ^ 32 := by decide +kernel
theorem szK_all (t : Nat) (h : t < top) : szK t 32 = sizeN t := by
  obtain ⟨h1, h2, h3⟩ := szK_spec t 32
  rw [Nat.mod_eq_of_lt (by rw [← top256]; exact h)] at h1 h3
  by_cases h0 : szK t 32 = 0
  · rw [h0] at h1
    obtain rfl : t = 0 := by simpa using h1
    rw [h0]
    rfl
  · rw [pow256] at h1
    have h3 := h3.resolve_left h0
    rw [pow256] at h3
    exact (sizeN_of (by omega) h3 h1).symm
/-- The k highest bytes. -/
def tpK (t n k : Nat) : Nat := if k ≤ n then t / 256 ^ (n - k) else t * 256 ^ (k - n)
theorem tpK_zero (t n : Nat) (h : t < 256 ^ n) : tpK t n 0 = 0 := by
  unfold tpK
  rw [if_pos (Nat.zero_le _)]
  exact Nat.div_eq_of_lt h
theorem tpK_in (t n k : Nat) (h : k + 1 ≤ n) : tpK t n (k + 1) = 256 * tpK t n k + t / 256 ^ (n - (k + 1)) % 256 := by
  unfold tpK
  rw [if_pos h, if_pos (by omega)]
  have e : n - k = n - (k + 1) + 1 := by omega
  rw [e, Nat.pow_succ, ← Nat.div_div_eq_div_mul]
  generalize t / 256 ^ (n - (k + 1)) = y
  omega
theorem tpK_out (t n k : Nat) (h : n < k + 1) : tpK t n (k + 1) = 256 * tpK t n k := by
  unfold tpK
  rw [if_neg (by omega)]
  by_cases hk : k ≤ n
  · have : k = n := by omega
    subst this
    rw [if_pos (Nat.le_refl _), show k + 1 - k = 1 by omega, Nat.sub_self]
    simp [Nat.mul_comm]
  · rw [if_neg hk, show k + 1 - n = (k - n) + 1 by omega, Nat.pow_succ]
    rw [← Nat.mul_assoc, Nat.mul_comm]
theorem tpK_lt (t n k : Nat) (h : t < 256 ^ n) : tpK t n k < 256 ^ k := by
  unfold tpK
  split
  · rename_i hk
    rw [Nat.div_lt_iff_lt_mul (Nat.pow_pos (by decide)), ← Nat.pow_add, show k + (n - k) = n by omega]
    exact h
  · rename_i hk
    have := Nat.mul_lt_mul_of_pos_right h (show 0 < 256 ^ (k - n) from Nat.pow_pos (by decide))
    rw [← Nat.pow_add, show n + (k - n) = k by omega] at this
    exact this
theorem tpK_three (t n : Nat) (h : t < 256 ^ n) (ht : t < top) : tpK t n 3 = shN t (3 - (n : Int)) := by
  unfold tpK
  by_cases hn : 3 ≤ n
  · rw [if_pos hn, show (3 : Int) - (n : Int) = -((n - 3 : Nat) : Int) by omega, shN_down _ _ ht, pow256]
  · have hlt := tpK_lt t n 3 h
    unfold tpK at hlt
    rw [if_neg hn] at hlt ⊢
    rw [show (3 : Int) - (n : Int) = ((3 - n : Nat) : Int) by omega, shN_up, ← pow256]
    exact (Nat.mod_eq_of_lt (Nat.lt_of_lt_of_le hlt (by decide))).symm
theorem size256 (t : Nat) : t < 256 ^ sizeN t := by
  rcases Nat.eq_zero_or_pos t with rfl | h
  · exact Nat.pow_pos (by decide)
  · rw [pow256]; exact (sizeN_low (by omega)).2.2
theorem bN_top (t : Nat) (ht : t < top) : bN t = if 8388607 < tpK t (sizeN t) 3 then (sizeN t + 1) * 16777216 + tpK t (sizeN t) 3 / 256 else sizeN t * 16777216 + tpK t (sizeN t) 3 := by
  rw [bN_is t ht, tpK_three t _ (size256 t) ht]
/-- What bits of a target can be. -/
theorem bN_form (t : Nat) (ht : t < top) : bN t / 8388608 % 2 = 0 ∧ bN t / 16777216 ≤ 33 ∧ (bN t / 16777216 = 33 → bN t % 8388608 < 65536) := by
  have hs := sizeN_le t ht
  have hm := tpK_lt t (sizeN t) 3 (size256 t)
  rw [bN_top t ht]
  have e : (256 : Nat) ^ 3 = 16777216 := by decide
  rw [e] at hm
  generalize tpK t (sizeN t) 3 = m at *
  generalize sizeN t = n at *
  split <;> omega

/-- The bytes of the target, k of three laid. -/
def hbK (b : Nat) : Nat → List UInt8
  | 0 => List.replicate 32 0
  | k + 1 => if 3 ≤ b / 16777216 + k ∧ b / 16777216 + k < 35 then (hbK b k).set (b / 16777216 + k - 3) (UInt8.ofNat (b % 8388608 / 256 ^ k)) else hbK b k
theorem hbK_length (b k : Nat) : (hbK b k).length = 32 := by
  induction k with
  | zero => simp [hbK]
  | succ k ih => simp only [hbK]; split <;> simp [ih]
theorem hbK_high (b k i : Nat) (h : b / 16777216 + k ≤ i + 3) (hi : i < (hbK b k).length) : (hbK b k)[i] = 0 := by
  induction k with
  | zero => exact List.getElem_replicate _
  | succ k ih =>
    simp only [hbK]
    split
    · rename_i hc
      rw [List.getElem_set_ne (by omega)]
      exact ih (by omega) _
    · exact ih (by omega) _
theorem num_set (l : List UInt8) (i : Nat) (x : UInt8) (h : i < l.length) : num (l.set i x) + (l[i]).toNat * 256 ^ i = num l + x.toNat * 256 ^ i := by
  induction l generalizing i with
  | nil => simp at h
  | cons y l ih =>
    cases i with
    | zero => simp [num]; omega
    | succ i =>
      have h := ih i (by simpa using h)
      simp only [List.set_cons_succ, num, List.getElem_cons_succ, Nat.pow_succ]
      have e1 : (l[i]'(by simpa using ‹i + 1 < (y :: l).length›)).toNat * (256 ^ i * 256) = 256 * ((l[i]'(by simpa using ‹i + 1 < (y :: l).length›)).toNat * 256 ^ i) := by rw [← Nat.mul_assoc, Nat.mul_comm]
      have e2 : x.toNat * (256 ^ i * 256) = 256 * (x.toNat * 256 ^ i) := by rw [← Nat.mul_assoc, Nat.mul_comm]
      rw [e1, e2]
      omega
theorem num_hbK (b k : Nat) : num (hbK b (k + 1)) = num (hbK b k) + if 3 ≤ b / 16777216 + k ∧ b / 16777216 + k < 35 then b % 8388608 / 256 ^ k % 256 * 256 ^ (b / 16777216 + k - 3) else 0 := by
  simp only [hbK]
  split
  · rename_i hc
    have hl := hbK_length b k
    have hi : b / 16777216 + k - 3 < (hbK b k).length := by omega
    have h := num_set (hbK b k) (b / 16777216 + k - 3) (UInt8.ofNat (b % 8388608 / 256 ^ k)) hi
    rw [hbK_high b k _ (by omega) hi, UInt8.toNat_ofNat'] at h
    simp at h
    exact h
  · rfl
theorem num_rep0 (n : Nat) : num (List.replicate n 0) = 0 := by
  induction n with
  | zero => rfl
  | succ n ih => simp [List.replicate_succ, num, ih]
/-- A byte that would lie above the number. -/
def outB (b k : Nat) : Prop := 35 ≤ b / 16777216 + k ∧ b % 8388608 / 256 ^ k % 256 ≠ 0
instance (b k : Nat) : Decidable (outB b k) := by unfold outB; exact inferInstance
theorem of_no (b : Nat) (h : bN (tN b) ≠ b) : ofE b = 5 ∧ ofT b = 0 := by
  unfold ofE ofT
  rw [if_pos (.inr h), if_pos (.inr h)]
  exact ⟨rfl, rfl⟩
theorem outB_no (b k : Nat) (hk : k < 3) (h : outB b k) : ofE b = 5 ∧ ofT b = 0 := by
  refine of_no b fun e => ?_
  obtain ⟨f1, f2, f3⟩ := bN_form (tN b) (tN_lt b)
  rw [e] at f1 f2 f3
  obtain ⟨h1, h2⟩ := h
  have h3 : b / 16777216 = 33 := by omega
  have h4 := f3 h3
  have hk2 : k = 2 := by omega
  subst hk2
  apply h2
  have : (256 : Nat) ^ 2 = 65536 := by decide
  rw [this]
  omega
theorem sign_no (b : Nat) (h : b / 8388608 % 2 = 1) : ofE b = 5 ∧ ofT b = 0 := by
  refine of_no b fun e => ?_
  obtain ⟨f1, f2, f3⟩ := bN_form (tN b) (tN_lt b)
  rw [e] at f1
  omega
theorem hbK_num (b : Nat) (h : ∀ k, k < 3 → ¬ outB b k) : num (hbK b 3) = tN b := by
  have hn : num (hbK b 3) < top := num_top _ (hbK_length b 3)
  have n0 : num (hbK b 0) = 0 := num_rep0 32
  have n1 := num_hbK b 0
  have n2 := num_hbK b 1
  have n3 := num_hbK b 2
  have o0 := h 0 (by decide)
  have o1 := h 1 (by decide)
  have o2 := h 2 (by decide)
  unfold outB at o0 o1 o2
  have hm : b % 8388608 < 8388608 := Nat.mod_lt _ (by decide)
  unfold tN
  generalize b % 8388608 = m at *
  have p1 : (256 : Nat) ^ 0 = 1 := by decide
  have p2 : (256 : Nat) ^ 1 = 256 := by decide
  have p3 : (256 : Nat) ^ 2 = 65536 := by decide
  rw [p1] at n1 o0
  rw [p2] at n2 o1
  rw [p3] at n3 o2
  rw [n3, n2, n1, n0] at hn ⊢
  clear n0 n1 n2 n3
  generalize b / 16777216 = e at *
  have hml : m < top := Nat.lt_of_lt_of_le hm (by decide)
  by_cases he : e < 3
  · have hc : e = 0 ∨ e = 1 ∨ e = 2 := by omega
    rcases hc with rfl | rfl | rfl
    · rw [show (((0 : Nat) : Int) - 3) = -((3 : Nat) : Int) by omega, shN_down _ _ hml]
      simp
      omega
    · rw [show (((1 : Nat) : Int) - 3) = -((2 : Nat) : Int) by omega, shN_down _ _ hml]
      simp
      omega
    · rw [show (((2 : Nat) : Int) - 3) = -((1 : Nat) : Int) by omega, shN_down _ _ hml]
      simp
      omega
  · obtain ⟨j, rfl⟩ : ∃ j, e = j + 3 := ⟨e - 3, by omega⟩
    have q0 : (if 3 ≤ j + 3 + 0 ∧ j + 3 + 0 < 35 then m / 1 % 256 * 256 ^ (j + 3 + 0 - 3) else 0) = m % 256 * 256 ^ j := by
      by_cases hc : j + 3 + 0 < 35
      · rw [if_pos ⟨by omega, hc⟩, Nat.div_one, show j + 3 + 0 - 3 = j by omega]
      · rw [if_neg (by omega), show m % 256 = 0 by omega, Nat.zero_mul]
    have q1 : (if 3 ≤ j + 3 + 1 ∧ j + 3 + 1 < 35 then m / 256 % 256 * 256 ^ (j + 3 + 1 - 3) else 0) = m / 256 % 256 * 256 * 256 ^ j := by
      by_cases hc : j + 3 + 1 < 35
      · rw [if_pos ⟨by omega, hc⟩, show j + 3 + 1 - 3 = j + 1 by omega, Nat.pow_succ, Nat.mul_assoc, Nat.mul_comm 256]
      · rw [if_neg (by omega), show m / 256 % 256 = 0 by omega]; simp
    have q2 : (if 3 ≤ j + 3 + 2 ∧ j + 3 + 2 < 35 then m / 65536 % 256 * 256 ^ (j + 3 + 2 - 3) else 0) = m / 65536 % 256 * 65536 * 256 ^ j := by
      by_cases hc : j + 3 + 2 < 35
      · rw [if_pos ⟨by omega, hc⟩, show j + 3 + 2 - 3 = j + 2 by omega, Nat.pow_add, Nat.mul_assoc, Nat.mul_comm (65536 : Nat)]
      · rw [if_neg (by omega), show m / 65536 % 256 = 0 by omega]; simp
    rw [q0, q1, q2, Nat.zero_add, ← Nat.add_mul, ← Nat.add_mul, show m % 256 + m / 256 % 256 * 256 + m / 65536 % 256 * 65536 = m by omega] at hn ⊢
    rw [show (((j + 3 : Nat) : Int) - 3) = (j : Int) by omega, shN_up, ← pow256]
    exact (Nat.mod_eq_of_lt hn).symm
end Go.Proofs.YtjbeemoobmagnaaDoor
end

section
namespace Go.Proofs.YtjbeemoobmagnaaDoor
open Go.RowKit
set_option linter.unusedVariables false
set_option linter.unusedSimpArgs false

/-- Bools as the cells of an array. -/
def bcel (l : List Bool) : Array Value := (l.map Value.bool).toArray
theorem bcel_size (l : List Bool) : (bcel l).size = l.length := by simp [bcel]
theorem bcel_get (l : List Bool) (i : Nat) (h : i < l.length) : (bcel l)[i]? = some (.bool l[i]) := by simp [bcel, h]
theorem bcel_one (l : List Bool) : (bcel l).all (·.oneCell') = true := by
  rw [Array.all_eq_true']
  intro x hx
  simp only [bcel, List.mem_toArray, List.mem_map] at hx
  obtain ⟨y, _, rfl⟩ := hx
  rfl
theorem bcel_set (l : List Bool) (i : Nat) (x : Bool) : (bcel l).setIfInBounds i (.bool x) = bcel (l.set i x) := by
  simp [bcel, List.map_set]
/-- No bit. -/
def zb : List Bool := List.replicate 256 false
/-- The bits of n below 256, the lowest first. -/
def bitsL (n : Nat) : List Bool := (List.range 256).map n.testBit
theorem bitsL_length (n : Nat) : (bitsL n).length = 256 := by simp [bitsL]
theorem bitsL_get (n i : Nat) (h : i < (bitsL n).length) : (bitsL n)[i] = n.testBit i := by simp [bitsL]
/-- So many bits laid, the others false. -/
def bitsK (n k : Nat) : List Bool := (bitsL n).take k ++ List.replicate (256 - k) false
theorem bitsK_length (n k : Nat) (h : k ≤ 256) : (bitsK n k).length = 256 := by simp [bitsK, bitsL_length]; omega
theorem bitsK_set (n k : Nat) (h : k < 256) : (bitsK n k).set k (n.testBit k) = bitsK n (k + 1) := by
  unfold bitsK
  have hk : k < (bitsL n).length := by rw [bitsL_length]; exact h
  rw [List.take_succ_eq_append_getElem hk, bitsL_get n k hk, show 256 - k = (256 - (k + 1)) + 1 by omega, List.replicate_succ, List.append_assoc]
  have := List.set_append_right k (n.testBit k) (s := (bitsL n).take k) (t := false :: List.replicate (256 - (k + 1)) false) (by rw [List.length_take]; omega)
  rw [this]
  have e : k - ((bitsL n).take k).length = 0 := by simp [bitsL_length]; omega
  rw [e]
  rfl
theorem bitsK_zero (n : Nat) : bitsK n 0 = zb := by rw [zb, bitsK, List.take_zero, List.nil_append, Nat.sub_zero]
theorem bitsK_all (n : Nat) : bitsK n 256 = bitsL n := by rw [bitsK, List.take_of_length_le (show (bitsL n).length ≤ 256 by rw [bitsL_length]; omega), Nat.sub_self, List.replicate_zero, List.append_nil]
theorem bit_of_limb (a i q r : Nat) (h : i = 64 * q + r) (hr : r < 64) : ((((lim a q / 2 ^ r : Nat) : Int) % 2) == 1) = a.testBit i := by
  subst h
  have e : lim a q / 2 ^ r % 2 = a / 2 ^ (64 * q + r) % 2 := by
    unfold lim
    rw [Nat.pow_add, ← Nat.div_div_eq_div_mul]
    generalize a / 2 ^ (64 * q) = y
    have hs := pow_split (p := r) (by omega)
    rw [hs, Nat.mul_comm, Nat.mod_mul, Nat.add_mul_div_left _ _ (Nat.pow_pos (by omega)), Nat.div_eq_of_lt (Nat.mod_lt _ (Nat.pow_pos (by omega))), Nat.zero_add]
    rw [show 64 - r = 1 + (63 - r) by omega, Nat.pow_add, Nat.pow_one, Nat.mod_mul_right_mod]
  rw [Nat.testBit_eq_decide_div_mod_eq, Bool.eq_iff_iff, ← e]
  simp only [beq_iff_eq, decide_eq_true_eq]
  omega
end Go.Proofs.YtjbeemoobmagnaaDoor
end

section
namespace Go.Proofs.YtjbeemoobmagnaaDoor
open Go.RowKit
set_option linter.unusedVariables false
set_option linter.unusedSimpArgs false

theorem info_bits : (Tryd.prog.info? 120).map (fun i => (i.zero, i.size)) = some (some (.agg (bcel zb)), 256) := by kernel_rfl

set_option maxHeartbeats 2000000 in
theorem refBits_any (a : Nat) (w : World) :
    Calls Tryd.prog 102 #[.agg #[.int .u64 (lim a 0 : Int), .int .u64 (lim a 1 : Int), .int .u64 (lim a 2 : Int), .int .u64 (lim a 3 : Int)]] w fun e w' => e = .returned (.agg (bcel (bitsL a))) ∧ Nx w w' := by
  obtain ⟨hz, hs⟩ := zero_of_info info_bits
  go_enter Tryd.func102, Tryd.ntmps102
  go_wp2
  replace hz := Lib.hid hz
  replace hs := Lib.hid hs
  go_loopw [4] (fun i wr => ∃ k : Nat, k ≤ 256 ∧ i = .int .i64 k ∧ Hid (Nx w wr) ∧ Row wr w.heap.size #[.int .u64 (lim a 0 : Int), .int .u64 (lim a 1 : Int), .int .u64 (lim a 2 : Int), .int .u64 (lim a 3 : Int)] 81 ∧ Row wr (w.heap.size + 1) (bcel zb) 120 ∧ Row wr (w.heap.size + 1 + 1) (bcel (bitsK a k)) 120) (fun i _ => 256 - (intOf i).toNat)
  case atStart =>
    refine ⟨0, by omega, rfl, (((Nx.refl w).alloc _).alloc _).alloc _, ((Row.new _ _ _ _ rfl).alloc _).alloc _, (Row.new2 _ _ _ _).alloc _, ?_⟩
    rw [bitsK_zero]
    exact Row.new3 _ _ _ _ _
  case round =>
    obtain ⟨k, hk, rfl, HN, RA, R1, R2⟩ := hrel
    by_cases hlt : k < 256
    · obtain ⟨q, hq⟩ : ∃ q : Nat, (k : Int) / 64 = (q : Int) := ⟨k / 64, by omega⟩
      obtain ⟨r, hr⟩ : ∃ r : Nat, (k : Int) % 64 = (r : Int) := ⟨k % 64, by omega⟩
      have HQ : Hid (q < 4) := show _ < _ by omega
      have HB := Lib.hid (bit_of_limb a k q r (by omega) (by omega))
      have hk0 : (0 : Int) ≤ (k : Int) := by omega
      have hki : (k : Int) < 256 := by omega
      obtain ⟨a0, a1, a2, a3⟩ := RA.four
      obtain ⟨v2, c2⟩ : ∃ v, wr.cell? ⟨w.heap.size + 1 + 1, k, none⟩ = some v := ⟨_, R2.cell (bcel_get _ k (by rw [bitsK_length a k hk]; exact hlt))⟩
      have f2 := R2.frozen
      have HS := Lib.hid (bitsK_set a k hlt)
      obtain ⟨wo, rfl⟩ : ∃ wo : World, wo = wr := ⟨_, rfl⟩
      have hq' : q = 0 ∨ q = 1 ∨ q = 2 ∨ q = 3 := by have := HQ.out; omega
      rcases hq' with rfl | rfl | rfl | rfl
      · have hq2 : (k : Int) / 64 = 0 := hq
        clear hq
        have HX := Lib.hid (lim_le a 0)
        generalize lim a 0 = x at *
        have h0 : (x : Int) = ((x / 2 ^ 0 : Nat) : Int) := by simp
        replace h0 := Lib.hid h0
        go_wp2
        go_loop [5, 6] (fun n j => ∃ m : Nat, m ≤ r ∧ j = .int .i64 m ∧ n = .int .u64 ((x / 2 ^ m : Nat) : Int)) (fun _ j => r - (intOf j).toNat)
        case atStart => exact ⟨0, by omega, rfl, by rw [← h0.out]⟩
        case round =>
          obtain ⟨m, hm, rfl, rfl⟩ := hrel
          have HM : Hid (x / 2 ^ m / 2 = x / 2 ^ (m + 1)) := show _ = _ by rw [Nat.div_div_eq_div_mul, ← Nat.pow_succ]
          have hy : ((x / 2 ^ m : Nat) : Int) ≤ 18446744073709551615 := by have := Nat.div_le_self x (2 ^ m); have := HX.out; omega
          by_cases hmr : m < r
          · have hmr2 : (m : Int) < (r : Int) := by omega
            generalize x / 2 ^ m = y at *
            go_wp2
            go_round
            case rel =>
              refine ⟨m + 1, by omega, by go_num, ?_⟩
              rw [← HM.out]
              rfl
            case measure => simp [intOf]; omega
          · obtain rfl : m = r := by omega
            clear HM
            have HBB := HB
            generalize x / 2 ^ m = y at *
            go_wp2
            go_roundw
            case rel =>
              refine ⟨k + 1, by omega, by go_num, HN.out.setAt _ (by omega), RA.other _ _ _ (by omega), R1.other _ _ _ (by omega), ?_⟩
              rw [← HS.out, ← bcel_set, ← HBB.out]
              exact R2.set k _
            case measure => simp [intOf]; omega
      · have hq2 : (k : Int) / 64 = 1 := hq
        clear hq
        have HX := Lib.hid (lim_le a 1)
        generalize lim a 1 = x at *
        have h0 : (x : Int) = ((x / 2 ^ 0 : Nat) : Int) := by simp
        replace h0 := Lib.hid h0
        go_wp2
        go_loop [5, 6] (fun n j => ∃ m : Nat, m ≤ r ∧ j = .int .i64 m ∧ n = .int .u64 ((x / 2 ^ m : Nat) : Int)) (fun _ j => r - (intOf j).toNat)
        case atStart => exact ⟨0, by omega, rfl, by rw [← h0.out]⟩
        case round =>
          obtain ⟨m, hm, rfl, rfl⟩ := hrel
          have HM : Hid (x / 2 ^ m / 2 = x / 2 ^ (m + 1)) := show _ = _ by rw [Nat.div_div_eq_div_mul, ← Nat.pow_succ]
          have hy : ((x / 2 ^ m : Nat) : Int) ≤ 18446744073709551615 := by have := Nat.div_le_self x (2 ^ m); have := HX.out; omega
          by_cases hmr : m < r
          · have hmr2 : (m : Int) < (r : Int) := by omega
            generalize x / 2 ^ m = y at *
            go_wp2
            go_round
            case rel =>
              refine ⟨m + 1, by omega, by go_num, ?_⟩
              rw [← HM.out]
              rfl
            case measure => simp [intOf]; omega
          · obtain rfl : m = r := by omega
            clear HM
            have HBB := HB
            generalize x / 2 ^ m = y at *
            go_wp2
            go_roundw
            case rel =>
              refine ⟨k + 1, by omega, by go_num, HN.out.setAt _ (by omega), RA.other _ _ _ (by omega), R1.other _ _ _ (by omega), ?_⟩
              rw [← HS.out, ← bcel_set, ← HBB.out]
              exact R2.set k _
            case measure => simp [intOf]; omega
      · have hq2 : (k : Int) / 64 = 2 := hq
        clear hq
        have HX := Lib.hid (lim_le a 2)
        generalize lim a 2 = x at *
        have h0 : (x : Int) = ((x / 2 ^ 0 : Nat) : Int) := by simp
        replace h0 := Lib.hid h0
        go_wp2
        go_loop [5, 6] (fun n j => ∃ m : Nat, m ≤ r ∧ j = .int .i64 m ∧ n = .int .u64 ((x / 2 ^ m : Nat) : Int)) (fun _ j => r - (intOf j).toNat)
        case atStart => exact ⟨0, by omega, rfl, by rw [← h0.out]⟩
        case round =>
          obtain ⟨m, hm, rfl, rfl⟩ := hrel
          have HM : Hid (x / 2 ^ m / 2 = x / 2 ^ (m + 1)) := show _ = _ by rw [Nat.div_div_eq_div_mul, ← Nat.pow_succ]
          have hy : ((x / 2 ^ m : Nat) : Int) ≤ 18446744073709551615 := by have := Nat.div_le_self x (2 ^ m); have := HX.out; omega
          by_cases hmr : m < r
          · have hmr2 : (m : Int) < (r : Int) := by omega
            generalize x / 2 ^ m = y at *
            go_wp2
            go_round
            case rel =>
              refine ⟨m + 1, by omega, by go_num, ?_⟩
              rw [← HM.out]
              rfl
            case measure => simp [intOf]; omega
          · obtain rfl : m = r := by omega
            clear HM
            have HBB := HB
            generalize x / 2 ^ m = y at *
            go_wp2
            go_roundw
            case rel =>
              refine ⟨k + 1, by omega, by go_num, HN.out.setAt _ (by omega), RA.other _ _ _ (by omega), R1.other _ _ _ (by omega), ?_⟩
              rw [← HS.out, ← bcel_set, ← HBB.out]
              exact R2.set k _
            case measure => simp [intOf]; omega
      · have hq2 : (k : Int) / 64 = 3 := hq
        clear hq
        have HX := Lib.hid (lim_le a 3)
        generalize lim a 3 = x at *
        have h0 : (x : Int) = ((x / 2 ^ 0 : Nat) : Int) := by simp
        replace h0 := Lib.hid h0
        go_wp2
        go_loop [5, 6] (fun n j => ∃ m : Nat, m ≤ r ∧ j = .int .i64 m ∧ n = .int .u64 ((x / 2 ^ m : Nat) : Int)) (fun _ j => r - (intOf j).toNat)
        case atStart => exact ⟨0, by omega, rfl, by rw [← h0.out]⟩
        case round =>
          obtain ⟨m, hm, rfl, rfl⟩ := hrel
          have HM : Hid (x / 2 ^ m / 2 = x / 2 ^ (m + 1)) := show _ = _ by rw [Nat.div_div_eq_div_mul, ← Nat.pow_succ]
          have hy : ((x / 2 ^ m : Nat) : Int) ≤ 18446744073709551615 := by have := Nat.div_le_self x (2 ^ m); have := HX.out; omega
          by_cases hmr : m < r
          · have hmr2 : (m : Int) < (r : Int) := by omega
            generalize x / 2 ^ m = y at *
            go_wp2
            go_round
            case rel =>
              refine ⟨m + 1, by omega, by go_num, ?_⟩
              rw [← HM.out]
              rfl
            case measure => simp [intOf]; omega
          · obtain rfl : m = r := by omega
            clear HM
            have HBB := HB
            generalize x / 2 ^ m = y at *
            go_wp2
            go_roundw
            case rel =>
              refine ⟨k + 1, by omega, by go_num, HN.out.setAt _ (by omega), RA.other _ _ _ (by omega), R1.other _ _ _ (by omega), ?_⟩
              rw [← HS.out, ← bcel_set, ← HBB.out]
              exact R2.set k _
            case measure => simp [intOf]; omega
    · obtain rfl : k = 256 := by omega
      rw [bitsK_all] at R2
      have hsz : (Tryd.prog.info? 120).map (·.size) = some (bcel (bitsL a)).size := by rw [bcel_size, bitsL_length]; exact hs.out
      have hsz := Lib.hid hsz
      have ho : (bcel zb).size = (bcel (bitsL a)).size := by rw [bcel_size, bcel_size, bitsL_length, zb, List.length_replicate]
      have ho := Lib.hid ho
      have hl : w.heap.size ≤ w.heap.size + 1 := by omega
      have R1' := R1
      have R2' := R2
      go_wp2_with (first | (refine wpList_load_row rfl 120 (.tmp 3) rfl (w.heap.size + 1 + 1) rfl 120 (bcel (bitsL a)) (0, 0) _ R2' Tryd.underlying120 rfl hsz.out ?_) | (refine wpList_store_row rfl 120 (.tmp 2) (.tmp 28) rfl (w.heap.size + 1) (bcel (bitsL a)) rfl rfl 120 (bcel zb) R1' hsz.out ho.out (bcel_one _) ?_))
      exact bodyPost_ret (results_cell_row Tryd.results102 _ _ (w.heap.size + 1) 120 (bcel (bitsL a)) (0, 0) _ rfl (R1'.setRow _) Tryd.underlying120 rfl hsz.out) rfl ⟨rfl, HN.out.setRow _ hl⟩
end Go.Proofs.YtjbeemoobmagnaaDoor
end

section
namespace Go.Proofs.YtjbeemoobmagnaaDoor
open Go.RowKit
set_option linter.unusedVariables false
set_option linter.unusedSimpArgs false

/-- The number so far, k bits to go: the limbs above are whole, the one that is under way has its higher bits, those below are 0. -/
def numK (a k : Nat) : Nat → Nat := fun q => if k ≤ 64 * q then lim a q else if 64 * (q + 1) ≤ k then 0 else lim a q / 2 ^ (k - 64 * q)
def ncel (a k : Nat) : Array Value := #[.int .u64 (numK a k 0 : Int), .int .u64 (numK a k 1 : Int), .int .u64 (numK a k 2 : Int), .int .u64 (numK a k 3 : Int)]
theorem numK_top (a : Nat) (q : Nat) (hq : q < 4) : numK a 256 q = 0 := by
  unfold numK; rw [if_neg (by omega), if_pos (by omega)]
theorem numK_zero (a q : Nat) : numK a 0 q = lim a q := by unfold numK; rw [if_pos (by omega)]
theorem numK_other (a j q i : Nat) (h : j / 64 = q) (hi : i ≠ q) : numK a j i = numK a (j + 1) i := by
  unfold numK
  by_cases h1 : j + 1 ≤ 64 * i
  · rw [if_pos (by omega), if_pos h1]
  · by_cases h2 : 64 * (i + 1) ≤ j + 1
    · rw [if_neg (by omega), if_pos (by omega), if_neg h1, if_pos h2]
    · omega
theorem numK_here (a j q : Nat) (h : j / 64 = q) : numK a j q = 2 * numK a (j + 1) q + (a.testBit j).toNat := by
  obtain ⟨r, hr⟩ : ∃ r, j = 64 * q + r := ⟨j % 64, by omega⟩
  have hr6 : r < 64 := by omega
  subst hr
  have e1 : numK a (64 * q + r) q = lim a q / 2 ^ r := by
    unfold numK
    by_cases h0 : r = 0
    · subst h0; rw [if_pos (by omega)]; simp
    · rw [if_neg (by omega), if_neg (by omega), Nat.add_sub_cancel_left]
  have e2 : numK a (64 * q + r + 1) q = lim a q / 2 ^ (r + 1) := by
    unfold numK
    rw [if_neg (by omega)]
    by_cases h63 : r = 63
    · subst h63
      rw [if_pos (by omega), Nat.div_eq_of_lt]
      have := lim_lt a q
      exact this
    · rw [if_neg (by omega), show 64 * q + r + 1 - 64 * q = r + 1 by omega]
  have e3 := bit_of_limb a (64 * q + r) q r rfl hr6
  rw [e1, e2, Nat.pow_succ, ← Nat.div_div_eq_div_mul]
  generalize lim a q / 2 ^ r = y at *
  rcases hb : a.testBit (64 * q + r) with _ | _
  · rw [hb] at e3
    simp only [beq_eq_false_iff_ne, ne_eq] at e3
    simp only [Bool.toNat_false]
    omega
  · rw [hb] at e3
    simp only [beq_iff_eq] at e3
    simp only [Bool.toNat_true]
    omega
theorem numK_lt (a k q : Nat) : numK a k q < 18446744073709551616 := by
  unfold numK
  have := lim_lt a q
  split
  · exact this
  · split
    · decide
    · exact Nat.lt_of_le_of_lt (Nat.div_le_self _ _) this
theorem ncel_set (a j q : Nat) (hq : q < 4) (h : j / 64 = q) : (ncel a (j + 1)).setIfInBounds q (.int .u64 (numK a j q : Int)) = ncel a j := by
  unfold ncel
  have O := numK_other a j q
  have hq' : q = 0 ∨ q = 1 ∨ q = 2 ∨ q = 3 := by omega
  rcases hq' with rfl | rfl | rfl | rfl
  · rw [O 1 h (by omega), O 2 h (by omega), O 3 h (by omega)]; rfl
  · rw [O 0 h (by omega), O 2 h (by omega), O 3 h (by omega)]; rfl
  · rw [O 0 h (by omega), O 1 h (by omega), O 3 h (by omega)]; rfl
  · rw [O 0 h (by omega), O 1 h (by omega), O 2 h (by omega)]; rfl
theorem ncel_top (a : Nat) : ncel a 256 = #[.int .u64 0, .int .u64 0, .int .u64 0, .int .u64 0] := by
  unfold ncel
  rw [numK_top a 0 (by omega), numK_top a 1 (by omega), numK_top a 2 (by omega), numK_top a 3 (by omega)]; rfl
theorem ncel_zero (a : Nat) : ncel a 0 = #[.int .u64 (lim a 0 : Int), .int .u64 (lim a 1 : Int), .int .u64 (lim a 2 : Int), .int .u64 (lim a 3 : Int)] := by
  unfold ncel
  rw [numK_zero, numK_zero, numK_zero, numK_zero]

end Go.Proofs.YtjbeemoobmagnaaDoor
end

section
namespace Go.Proofs.YtjbeemoobmagnaaDoor
open Go.RowKit
set_option linter.unusedVariables false
set_option linter.unusedSimpArgs false

/-- The carry into bit k. -/
def car2 (a b c k : Nat) : Nat := (a % 2 ^ k + b % 2 ^ k + c) / 2 ^ k
theorem car2_zero (a b c : Nat) : car2 a b c 0 = c := by simp [car2, Nat.mod_one]
theorem car2_le (a b c k : Nat) (hc : c ≤ 1) : car2 a b c k ≤ 1 := by
  unfold car2
  have hp : 0 < 2 ^ k := Nat.pow_pos (by omega)
  have h1 := Nat.mod_lt a hp
  have h2 := Nat.mod_lt b hp
  generalize 2 ^ k = m at *
  have : (a % m + b % m + c) / m < 2 := by rw [Nat.div_lt_iff_lt_mul hp]; omega
  omega
theorem bsum_step (a b c k : Nat) : (a + b + c) / 2 ^ k % 2 = (a / 2 ^ k % 2 + b / 2 ^ k % 2 + car2 a b c k) % 2 ∧ car2 a b c (k + 1) = (a / 2 ^ k % 2 + b / 2 ^ k % 2 + car2 a b c k) / 2 := by
  unfold car2
  have hp : 0 < 2 ^ k := Nat.pow_pos (by omega)
  rw [Nat.pow_succ, mod_step, mod_step]
  generalize 2 ^ k = m at *
  have ea : a = a % m + m * (a / m) := by have := Nat.mod_add_div a m; omega
  have eb : b = b % m + m * (b / m) := by have := Nat.mod_add_div b m; omega
  constructor
  · have : a + b + c = (a % m + b % m + c) + m * (a / m + b / m) := by rw [Nat.mul_add]; omega
    rw [this, Nat.add_mul_div_left _ _ hp]
    omega
  · have : a % m + m * (a / m % 2) + (b % m + m * (b / m % 2)) + c = (a % m + b % m + c) + m * (a / m % 2 + b / m % 2) := by rw [Nat.mul_add]; omega
    rw [this, ← Nat.div_div_eq_div_mul, Nat.add_mul_div_left _ _ hp, Nat.add_comm]
/-- The same, in Bools. -/
def carB2 (a b : Nat) (c : Bool) (k : Nat) : Bool := decide (1 ≤ car2 a b c.toNat k)
theorem carB2_zero (a b : Nat) (c : Bool) : carB2 a b c 0 = c := by unfold carB2; rw [car2_zero]; cases c <;> rfl
theorem bit_mod (a k : Nat) : a / 2 ^ k % 2 = (a.testBit k).toNat := by
  rw [Nat.testBit_eq_decide_div_mod_eq]
  have : a / 2 ^ k % 2 < 2 := Nat.mod_lt _ (by decide)
  by_cases h : a / 2 ^ k % 2 = 1
  · simp [h]
  · have : a / 2 ^ k % 2 = 0 := by omega
    simp [this]
theorem bsum_bool (a b : Nat) (c : Bool) (k : Nat) : (a + b + c.toNat).testBit k = decide (((a.testBit k).toNat + (b.testBit k).toNat + (carB2 a b c k).toNat) % 2 = 1) ∧ carB2 a b c (k + 1) = decide (2 ≤ (a.testBit k).toNat + (b.testBit k).toNat + (carB2 a b c k).toNat) := by
  obtain ⟨h1, h2⟩ := bsum_step a b c.toNat k
  have hc : car2 a b c.toNat k ≤ 1 := car2_le _ _ _ _ (by cases c <;> decide)
  have e : (carB2 a b c k).toNat = car2 a b c.toNat k := by
    unfold carB2
    by_cases h : 1 ≤ car2 a b c.toNat k
    · simp [h]; omega
    · simp [h]; omega
  rw [e, ← bit_mod, ← bit_mod]
  constructor
  · rw [Nat.testBit_eq_decide_div_mod_eq, h1]
  · unfold carB2
    rw [h2, Bool.eq_iff_iff]
    simp only [decide_eq_true_eq]
    omega
theorem carB2_all (a b : Nat) (c : Bool) (ha : a < top) (hb : b < top) : carB2 a b c 256 = decide (top ≤ a + b + c.toNat) := by
  unfold carB2 car2
  rw [← top_eq, Nat.mod_eq_of_lt ha, Nat.mod_eq_of_lt hb, Bool.eq_iff_iff]
  simp only [decide_eq_true_eq]
  have hp : 0 < top := by decide
  rw [Nat.le_div_iff_mul_le hp, Nat.one_mul]

theorem results_row_tmp {P : Program} {fn : Func} {p q : Tmp} {ty : TypeId} (h : fn.results = #[.cell p ty, .tmp q]) (tmps : Array Value) (w : World) (g : Nat) (t : TypeId) (cs : Array Value) (fr : Nat × Nat) (d : TypeDesc)
    (hp : tmps.getD p undef = .pointer (some ⟨g, 0, none⟩)) (hg : w.heap[g]? = some (.cells cs t fr))
    (hu : P.underlying ty = some d) (hd : (match d with | .struct _ | .array _ _ => true | _ => false) = true) (hi : (P.info? ty).map (·.size) = some cs.size) :
    (results fn tmps).run P w = .ok (.tuple #[.agg cs, tmps.getD q undef]) w := by
  have hp' : tmps[p]?.getD undef = .pointer (some ⟨g, 0, none⟩) := by simpa using hp
  simp [results, h, hp', asAddr, run_loadVar_row w g t ty cs fr d hg hu hd hi]

/-- Turned over from below, k bits done. -/
def notK (a k : Nat) : List Bool := (bitsL (turnN a)).take k ++ (bitsL a).drop k
theorem turn_bit (a k : Nat) (ha : a < top) (hk : k < 256) : (turnN a).testBit k = !(a.testBit k) := by
  unfold turnN
  rw [top_eq] at *
  rw [show 2 ^ 256 - 1 - a = 2 ^ 256 - (a + 1) by omega, Nat.testBit_two_pow_sub_succ ha]
  simp [hk]
theorem notK_length (a k : Nat) (hk : k ≤ 256) : (notK a k).length = 256 := by simp [notK, bitsL_length]; omega
theorem notK_get (a k : Nat) (hk : k < 256) (h : k < (notK a k).length) : (notK a k)[k] = a.testBit k := by
  unfold notK at *
  rw [List.getElem_append_right (by rw [List.length_take, bitsL_length]; omega), List.getElem_drop, bitsL_get]
  congr 1
  rw [List.length_take, bitsL_length]; omega
theorem notK_set (a k : Nat) (ha : a < top) (hk : k < 256) : (notK a k).set k (!(a.testBit k)) = notK a (k + 1) := by
  unfold notK
  have h1 : k < (bitsL (turnN a)).length := by rw [bitsL_length]; exact hk
  have h2 : k < (bitsL a).length := by rw [bitsL_length]; exact hk
  rw [List.take_succ_eq_append_getElem h1, bitsL_get, turn_bit a k ha hk, List.drop_eq_getElem_cons h2, List.append_assoc]
  have := List.set_append_right k (!(a.testBit k)) (s := (bitsL (turnN a)).take k) (t := (bitsL a)[k] :: (bitsL a).drop (k + 1)) (by rw [List.length_take]; omega)
  rw [this]
  have e : k - ((bitsL (turnN a)).take k).length = 0 := by rw [List.length_take, bitsL_length]; omega
  rw [e]
  rfl
theorem notK_zero (a : Nat) : notK a 0 = bitsL a := by rw [notK, List.take_zero, List.nil_append, List.drop_zero]
theorem notK_all (a : Nat) : notK a 256 = bitsL (turnN a) := by
  rw [notK, List.take_of_length_le (by rw [bitsL_length]; omega), List.drop_of_length_le (by rw [bitsL_length]; omega), List.append_nil]

end Go.Proofs.YtjbeemoobmagnaaDoor
end

section
namespace Go.Proofs.YtjbeemoobmagnaaDoor
open Go.RowKit
set_option linter.unusedVariables false
set_option linter.unusedSimpArgs false

theorem Row.there {w : World} {g : Nat} {cs : Array Value} {t : TypeId} (h : Row w g cs t) (n : Nat) (hn : n ≤ cs.size) : w.there g 0 n := fun j hj => by
  rw [Nat.zero_add]
  refine ⟨?_, h.frozen j⟩
  rw [h.cell (v := cs[j]'(by omega)) (by simp [show j < cs.size by omega])]
  rfl
theorem Row.cells_other {w : World} {g k : Nat} {cs : Array Value} {t : TypeId} (h : Row w g cs t) (o : Nat) (vs : List Value) (hk : g ≠ k) : Row (w.setCells k o vs) g cs t := by
  unfold Row
  rw [World.heap_setCells_other w k o vs h.lt hk]; exact h
theorem below_setCells_nx {B b : Nat} {a : World} (hb : B ≤ b) : ∀ (vs : List Value) (o : Nat) (w : World), Below B a w → Below B a (w.setCells b o vs)
  | [], _, _, h => h
  | v :: r, o, w, h => below_setCells_nx hb r (o + 1) _ (h.setCell hb v)
theorem Nx.setCells {a b : World} (h : Nx a b) (k o : Nat) (vs : List Value) (hp : a.heap.size ≤ k) : Nx a (b.setCells k o vs) := below_setCells_nx hp vs o b h
theorem info_bits_l (l : List Bool) (h : l.length = 256) : (Tryd.prog.info? 120).map (·.size) = some (l.map Value.bool).length := by
  rw [List.length_map, h]; exact (zero_of_info info_bits).2

theorem turnN_lt (b : Nat) : turnN b < top := by
  unfold turnN
  have : 0 < top := by decide
  omega
theorem not_above (a b : Nat) (ha : a < top) (hb : b < top) : (!decide (top ≤ a + turnN b + 1)) = subB a b := by
  unfold turnN subB
  by_cases h : a < b
  · simp [h]; omega
  · simp [h]; omega

end Go.Proofs.YtjbeemoobmagnaaDoor
end
