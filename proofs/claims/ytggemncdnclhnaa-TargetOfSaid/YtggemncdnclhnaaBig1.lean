/- CONTRACTS OF LAYER 3: half, addLimbs. -/
import Derived.Test.YtggemncdnclhnaaBigPure
import Derived.Test.YtggemncdnclhnaaMore
import Derived.LoopTactic
import Derived.Outline
import Derived.Deep.QuietTactic
import Derived.BigQuiet
import Derived.IntWalk
namespace Go.Proofs.Ytggemncdnclhnaa
open Go.RowKit
set_option linter.unusedVariables false
set_option linter.unusedSimpArgs false

theorem half_any (n : Int) (w : World) :
    Calls Try.prog 64 #[.int .u64 n] w fun e w' => e = .returned (.int .u64 (n % 4294967296)) ∧ w' = w := by
  go_enter Try.func64, Try.ntmps64
  go_wp2
  go_ret
  exact ⟨rfl, rfl⟩

/-- The row of a sum that goes on, k limbs done. -/
def rowK (a s : Nat) : Nat → Array Value
  | 0 => #[.int .u64 (lim a 0 : Int), .int .u64 (lim a 1 : Int), .int .u64 (lim a 2 : Int), .int .u64 (lim a 3 : Int)]
  | 1 => #[.int .u64 (lim s 0 : Int), .int .u64 (lim a 1 : Int), .int .u64 (lim a 2 : Int), .int .u64 (lim a 3 : Int)]
  | 2 => #[.int .u64 (lim s 0 : Int), .int .u64 (lim s 1 : Int), .int .u64 (lim a 2 : Int), .int .u64 (lim a 3 : Int)]
  | 3 => #[.int .u64 (lim s 0 : Int), .int .u64 (lim s 1 : Int), .int .u64 (lim s 2 : Int), .int .u64 (lim a 3 : Int)]
  | _ => #[.int .u64 (lim s 0 : Int), .int .u64 (lim s 1 : Int), .int .u64 (lim s 2 : Int), .int .u64 (lim s 3 : Int)]

set_option maxHeartbeats 2000000 in
theorem addLimbs_any (a b c : Nat) (w : World) (hc : c ≤ 1) :
    Calls Try.prog 55 #[.agg #[.int .u64 (lim a 0 : Int), .int .u64 (lim a 1 : Int), .int .u64 (lim a 2 : Int), .int .u64 (lim a 3 : Int)], .agg #[.int .u64 (lim b 0 : Int), .int .u64 (lim b 1 : Int), .int .u64 (lim b 2 : Int), .int .u64 (lim b 3 : Int)], .int .u64 (c : Int)] w fun e w' => e = .returned (.tuple #[.agg #[.int .u64 (lim (a + b + c) 0 : Int), .int .u64 (lim (a + b + c) 1 : Int), .int .u64 (lim (a + b + c) 2 : Int), .int .u64 (lim (a + b + c) 3 : Int)], .int .u64 (car a b c 4 : Int)]) ∧ Nx w w' := by
  have HS := Lib.hid (sum_step a b c)
  have HC := Lib.hid (fun k => car_le a b c k hc)
  have HA := Lib.hid (lim_lt a)
  have HB := Lib.hid (lim_lt b)
  have h0 : ((car a b c 0 : Nat) : Int) = (c : Int) := by rw [car0]
  rw [← h0]
  clear h0 hc
  generalize a + b + c = s at *
  go_enter Try.func55, Try.ntmps55
  go_wp2
  go_loopw [2, 11] (fun cv i wr => ∃ k : Nat, k ≤ 4 ∧ i = .int .i64 k ∧ cv = .int .u64 (car a b c k : Int) ∧ ∃ n, wr = (((w.alloc (.cells (rowK a s k) 24)).alloc (.cells (rowK b s 0) 24)).alloc (.cells #[.int .u64 0, .int .u64 0, .int .u64 0, .int .u64 0] 24)).drewN n) (fun _ i _ => 4 - (intOf i).toNat)
  case atStart => exact ⟨0, by omega, rfl, rfl, 0, rfl⟩
  case round =>
    obtain ⟨k, hk, rfl, rfl, n, rfl⟩ := hrel
    have hk' : k = 0 ∨ k = 1 ∨ k = 2 ∨ k = 3 ∨ k = 4 := by omega
    clear hk
    rcases hk' with rfl | rfl | rfl | rfl | rfl
    · have HS0 := Lib.hid (HS.out 0)
      have hc0 := HC.out 0
      have hx := lim_le a 0
      have hy := lim_le b 0
      have HX := Lib.hid (lim_lt a 0)
      have HY := Lib.hid (lim_lt b 0)
      clear HS HC HA HB
      simp only [rowK]
      generalize lim a 0 = x at *
      generalize lim b 0 = y at *
      generalize car a b c 0 = cc at *
      go_wp2
      go_quiet ((first | (go_at_call 64; exact still2 (half_any _))))
      go_wp2
      go_quiet (fail)
      go_wp2_with (go_at_call 64; refine (half_any _ _).mono ?_; rintro e w' ⟨rfl, rfl⟩)
      go_roundw
      case rel =>
        refine ⟨1, by omega, rfl, by rw [carry_of, ← HS0.out.2], ?_⟩
        apply Exists.intro
        rw [IntKind.wrap_u64, halves x y cc HX.out HY.out hc0, ← HS0.out.1, put3a]
        rfl
      case measure => simp [intOf]
    · have HS0 := Lib.hid (HS.out 1)
      have hc0 := HC.out 1
      have hx := lim_le a 1
      have hy := lim_le b 1
      have HX := Lib.hid (lim_lt a 1)
      have HY := Lib.hid (lim_lt b 1)
      clear HS HC HA HB
      simp only [rowK]
      generalize lim a 1 = x at *
      generalize lim b 1 = y at *
      generalize car a b c 1 = cc at *
      go_wp2
      go_quiet ((first | (go_at_call 64; exact still2 (half_any _))))
      go_wp2
      go_quiet (fail)
      go_wp2_with (go_at_call 64; refine (half_any _ _).mono ?_; rintro e w' ⟨rfl, rfl⟩)
      go_roundw
      case rel =>
        refine ⟨2, by omega, rfl, by rw [carry_of, ← HS0.out.2], ?_⟩
        apply Exists.intro
        rw [IntKind.wrap_u64, halves x y cc HX.out HY.out hc0, ← HS0.out.1, put3a]
        rfl
      case measure => simp [intOf]
    · have HS0 := Lib.hid (HS.out 2)
      have hc0 := HC.out 2
      have hx := lim_le a 2
      have hy := lim_le b 2
      have HX := Lib.hid (lim_lt a 2)
      have HY := Lib.hid (lim_lt b 2)
      clear HS HC HA HB
      simp only [rowK]
      generalize lim a 2 = x at *
      generalize lim b 2 = y at *
      generalize car a b c 2 = cc at *
      go_wp2
      go_quiet ((first | (go_at_call 64; exact still2 (half_any _))))
      go_wp2
      go_quiet (fail)
      go_wp2_with (go_at_call 64; refine (half_any _ _).mono ?_; rintro e w' ⟨rfl, rfl⟩)
      go_roundw
      case rel =>
        refine ⟨3, by omega, rfl, by rw [carry_of, ← HS0.out.2], ?_⟩
        apply Exists.intro
        rw [IntKind.wrap_u64, halves x y cc HX.out HY.out hc0, ← HS0.out.1, put3a]
        rfl
      case measure => simp [intOf]
    · have HS0 := Lib.hid (HS.out 3)
      have hc0 := HC.out 3
      have hx := lim_le a 3
      have hy := lim_le b 3
      have HX := Lib.hid (lim_lt a 3)
      have HY := Lib.hid (lim_lt b 3)
      clear HS HC HA HB
      simp only [rowK]
      generalize lim a 3 = x at *
      generalize lim b 3 = y at *
      generalize car a b c 3 = cc at *
      go_wp2
      go_quiet ((first | (go_at_call 64; exact still2 (half_any _))))
      go_wp2
      go_quiet (fail)
      go_wp2_with (go_at_call 64; refine (half_any _ _).mono ?_; rintro e w' ⟨rfl, rfl⟩)
      go_roundw
      case rel =>
        refine ⟨4, by omega, rfl, by rw [carry_of, ← HS0.out.2], ?_⟩
        apply Exists.intro
        rw [IntKind.wrap_u64, halves x y cc HX.out HY.out hc0, ← HS0.out.1, put3a]
        rfl
      case measure => simp [intOf]
    · simp only [rowK]
      go_wp2
      exact bodyPost_ret (v := .tuple #[.agg #[.int .u64 (lim s 0 : Int), .int .u64 (lim s 1 : Int), .int .u64 (lim s 2 : Int), .int .u64 (lim s 3 : Int)], .int .u64 (car a b c 4 : Int)]) (by simp [results, Try.results55, go_sem]) rfl ⟨rfl, by repeat (first | exact Nx.refl _ | apply Nx.drewN | apply Nx.alloc | refine Nx.setAt ?_ _ (by omega))⟩
end Go.Proofs.Ytggemncdnclhnaa
